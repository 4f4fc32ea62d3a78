/- Texts of this claim. -/
import Derived.Shelf.Strings.SplitCore
import Derived.Lib.SplitLaws
import Derived.Lib.IndexBytes
import Derived.Test.YtpfhegengmlkmabGreatDoorZu42
namespace Go.Proofs.YtpfhegengmlkmabGreatDoor
set_option maxRecDepth 100000
theorem lF {g g':aB}{r:List ByteArray}{t:List UInt8}:xA g r g' t->fD g mF r g' t:=fun h=>by
 unfold fD
 rw[if_pos rfl]
 exact h
theorem oN {g g':aB}{r:List ByteArray}{t:List UInt8}:jM g r g' t->fD g mV r g' t:=fun h=>by
 unfold fD
 rw[if_neg (by decide),if_pos rfl]
 exact h
theorem yJ {l:List ByteArray}{k:Nat}{g:aB}{o:List UInt8}(hk:k<l.length)(h:dX (l.take k) g o) :
  (bl l[k]=[]->dX (l.take (k+1)) g o)/\∀g' t,bl l[k]≠[]->fP g (aZ 32 l[k]) g' t->dX (l.take (k+1)) g' (o++(t++[10])):=by
 rw[List.take_succ_eq_append_getElem hk]
 exact⟨fun e=>.skip h e,fun g' t e ht=>.line h e ht⟩
end Go.Proofs.YtpfhegengmlkmabGreatDoor
namespace Go.Proofs.YtpfhegengmlkmabGreatDoor
open Go.RowKit Go.BigFrame
set_option maxRecDepth 100000
theorem wz (c:UInt8):∀l:List UInt8,Lib.splitK [c] 0 (l.count c) l=aj c l
 |[]=>rfl
 |x::r=>by
  have ih:=wz c r
  by_cases h:x=c
  ·subst h
   have hi:Lib.index (x::r) [x]=0:=by simp[Lib.index]
   rw[List.count_cons_self,Lib.splitK,hi]
   simp[aj,ih]
  ·have hc:(x::r).count c=r.count c:=List.count_cons_of_ne h
   rw[hc]
   unfold aj
   rw[if_neg h,<- ih]
   cases hk:r.count c with
   |zero=>rfl
   |succ k=>
    have hne:Lib.index r [c]≠-1:=fun e=>by
     have h1:=Lib.count_miss e
     rw[Lib.count_one]at h1
     omega
    have hge:=Lib.index_ge r [c]
    obtain⟨i,hi⟩:∃i:Nat,Lib.index r [c]=(i:Int):=⟨(Lib.index r [c]).toNat,by omega⟩
    have hp:([c]:List UInt8).isPrefixOf (x::r)=false:=by simp[List.isPrefixOf,Ne.symm h]
    have hx:Lib.index (x::r) [c]=((i+1:Nat):Int):=by
     rw[Lib.index,hp,hi]
     have:((i:Int)==-1)=false:=by rw[beq_eq_false_iff_ne];omega
     simp[this]
    have b1:(((i+1:Nat):Int)==-1)=false:=by rw[beq_eq_false_iff_ne];omega
    have b2:((i:Int)==-1)=false:=by rw[beq_eq_false_iff_ne];omega
    rw[Lib.splitK,Lib.splitK,hx,hi,b1,b2]
    simp
theorem vW (c:UInt8)(t:ByteArray):Lib.splitB ⟨#[c]⟩ 0 (Lib.countB t ⟨#[c]⟩) t=aZ c t:=by
 refine EP ?_
 have h:=Lib.splitB_data ⟨#[c]⟩ 0 (Lib.countB t ⟨#[c]⟩) t
 have e:Lib.countB t ⟨#[c]⟩=(bl t).count c:=Lib.count_one c _
 rw[e]at h ⊢
 exact h.trans (wz c (bl t))
theorem LC (c:UInt8)(t:ByteArray):(aZ c t).length=(bl t).count c+1:=by
 rw[<- vW,Lib.splitB_all ⟨#[c]⟩ (Nat.le_refl _) 0 _ t rfl]
 congr 1
 exact Lib.count_one c _
theorem sH (c:UInt8)(t:ByteArray):(aZ c t).length<=t.size+1/\∀u∈aZ c t,u.size<=t.size:=nP (ny c t)
def Nh (lo:Nat)(c:UInt8)(t:ByteArray)(w':World)(e:Ending):Prop:=∃b cap,e=.returned (.slice (some ⟨b,0,none⟩) (aZ c t).length cap)/\dQ w' (some ⟨b,0,none⟩) (aZ c t)/\(aZ c t).length<=cap/\cap<=1000001/\lo<=b
theorem Ec (w:World)(l:List ByteArray)(T:TypeId):dQ (w.alloc (.cells (l.map Value.string).toArray T)) (some ⟨w.heap.size,0,none⟩) l:=fun k hk=>by
 refine⟨_,0,rfl,by simp, ?_⟩
 have hh:(w.alloc (.cells (l.map Value.string).toArray T)).heap[w.heap.size]?=some (.cells (l.map Value.string).toArray T (0,0)):=by unfold World.alloc;exact Array.getElem?_push_size
 rw[Lib.cell_of_heap hh]
 simp
set_option maxHeartbeats 800000 in
theorem zJ (c:UInt8)(t:ByteArray)(w:World)(ht:t.size<=1000000) :
  Calls Tryz.prog 20 #[.string t,.string ⟨#[c]⟩] w fun e w'=>Nh w.heap.size c t w' e/\Below w.heap.size w w':=by
 have hle:=Lib.countB_le ⟨#[c]⟩ (Nat.le_refl _) t.size t (Nat.le_refl _)
 have hlen:=Lib.splitB_all ⟨#[c]⟩ (Nat.le_refl _) 0 _ t rfl
 have cS:=Any.strings_genSplit_core Tryz.lays221 (by kernel_rfl) t ⟨#[c]⟩ 0 (-1) (Lib.countB t ⟨#[c]⟩+1) w (by omega) (Nat.le_refl _) (Nat.zero_le _)
  (fun x q hx=>(Tryz.strings_Index_one x c _).mono fun e w' ⟨he,hw⟩=>⟨by rw[he,<- Lib.index_one],hw⟩)
  ((Tryz.strings_Count_one t c w).mono fun e w' ⟨he,hw⟩=>⟨by rw[he];exact congrArg (fun n:Nat=>Ending.returned (Value.int .i64 (n:Int))) (Lib.count_one c t.data.toList).symm,hw⟩)
  (by decide) (by decide) (by rw[if_pos (by decide)];omega)
 rw[Nat.add_sub_cancel,hlen]at cS
 have e2:Lib.cellsOf (Lib.splitB ⟨#[c]⟩ 0 (Lib.countB t ⟨#[c]⟩) t) (Lib.countB t ⟨#[c]⟩+1)=((Lib.splitB ⟨#[c]⟩ 0 (Lib.countB t ⟨#[c]⟩) t).map Value.string).toArray:=by rw[<- hlen];exact Lib.cellsOf_full _
 rw[e2]at cS
 have hrow:=Ec w (Lib.splitB ⟨#[c]⟩ 0 (Lib.countB t ⟨#[c]⟩) t) 9
 have HB:Hid (Below w.heap.size w (w.alloc (.cells ((Lib.splitB ⟨#[c]⟩ 0 (Lib.countB t ⟨#[c]⟩) t).map Value.string).toArray 9))):=(Below.refl _ _).alloc (Nat.le_refl _) _
 have HE:Hid (Nh w.heap.size c t (w.alloc (.cells ((Lib.splitB ⟨#[c]⟩ 0 (Lib.countB t ⟨#[c]⟩) t).map Value.string).toArray 9)) (.returned (.slice (some ⟨w.heap.size,0,none⟩) (Lib.countB t ⟨#[c]⟩+1) (Lib.countB t ⟨#[c]⟩+1)))):=by
  have el:Lib.countB t ⟨#[c]⟩+1=(aZ c t).length:=by rw[<- hlen,vW]
  rw[vW]at hrow ⊢
  exact⟨_,Lib.countB t ⟨#[c]⟩+1,by rw[el],hrow,Nat.le_of_eq el.symm,by omega,Nat.le_refl _⟩
 clear hrow e2 hlen hle
 go_enter Tryz.func20,Tryz.ntmps20
 go_wp2_with (go_at_call 35;refine cS.mono ?_;rintro e w' ⟨rfl,hw⟩;rw[hw])
 go_ret
 exact⟨HE.out,HB.out⟩
def yS (w w':World)(g:aB)(a0 a1 a2:Option Addr)(c0 c1 c2:Nat)(T:aB->List UInt8->Prop)(e:Ending):Prop:=
 ∃s g' b0 b1 b2 d0 d1 d2,e=.returned (.tuple #[.agg #[.slice b0 (aB.ins g').length d0,.slice b1 (aB.wins g').length d1,.slice b2 (aB.shown g').length d2],.string s])/\T g' (bl s) /\
  ((g'=g/\b0=a0/\b1=a1/\b2=a2/\d0=c0/\d1=c1/\d2=c2)∨(RowsIn w.heap.size w'.heap.size w' g' b0 b1 b2/\dM g'/\(aB.ins g').length<=d0/\d0<=maxLen))
theorem yS.old {w w':World}{g:aB}{a0 a1 a2:Option Addr}{c0 c1 c2:Nat}{T:aB->List UInt8->Prop}{s:ByteArray}(h:T g (bl s)):yS w w' g a0 a1 a2 c0 c1 c2 T (.returned (.tuple #[.agg #[.slice a0 g.ins.length c0,.slice a1 g.wins.length c1,.slice a2 g.shown.length c2],.string s])):=
 ⟨s,g,a0,a1,a2,c0,c1,c2,rfl,h,.inl ⟨rfl,rfl,rfl,rfl,rfl,rfl,rfl⟩⟩
theorem RowsIn.wide {lo hi lo' hi':Nat}{w:World}{g:aB}{a0 a1 a2:Option Addr}(h:RowsIn lo hi w g a0 a1 a2)(h1:lo'<=lo)(h2:hi<=hi'):RowsIn lo' hi' w g a0 a1 a2:=fun u hu=>h u (hu.sub h1 h2)
theorem yS.new {w w':World}{g g':aB}{a0 a1 a2 b0 b1 b2:Option Addr}{c0 c1 c2 d0 d1 d2 lo hi:Nat}{T:aB->List UInt8->Prop}{s:ByteArray}(hr:RowsIn lo hi w' g' b0 b1 b2)(hlo:w.heap.size<=lo)(hhi:hi<=w'.heap.size)(hn:dM g')(hc:g'.ins.length<=d0)(hc2:d0<=maxLen)(h:T g' (bl s)) :
  yS w w' g a0 a1 a2 c0 c1 c2 T (.returned (.tuple #[.agg #[.slice b0 g'.ins.length d0,.slice b1 g'.wins.length d1,.slice b2 g'.shown.length d2],.string s])):=
 ⟨s,g',b0,b1,b2,d0,d1,d2,rfl,h,.inr ⟨hr.wide hlo hhi,hn,hc,hc2⟩⟩
theorem iy.set3 {w:World}{b:Nat}{x y z:Value}(h:iy w b x y z)(p q r:Value):iy (((w.setCell ⟨b,0,none⟩ p).setCell ⟨b,1,none⟩ q).setCell ⟨b,2,none⟩ r) b p q r:=((h.set0 p).set1 q).set2c r
theorem bU {w W:World}{b:Nat}(h:Below w.heap.size w W)(hb:w.heap.size<=b)(p q r:Value):Below w.heap.size w (((W.setCell ⟨b,0,none⟩ p).setCell ⟨b,1,none⟩ q).setCell ⟨b,2,none⟩ r):=((h.setCell hb _).setCell hb _).setCell hb _
theorem jg (W:World)(b:Nat)(p q r:Value):aJ b (b+1) W (((W.setCell ⟨b,0,none⟩ p).setCell ⟨b,1,none⟩ q).setCell ⟨b,2,none⟩ r):=(((aJ.refl _ _ _).setCell (Nat.le_refl _) (Nat.lt_succ_self _) _ _).setCell (Nat.le_refl _) (Nat.lt_succ_self _) _ _).setCell (Nat.le_refl _) (Nat.lt_succ_self _) _ _
theorem gB {u:ByteArray}{l:List UInt8}(h:bl u=l)(m:List UInt8):(u.toList==m)=(l==m):=by
 rw[ByteArray.toList_eq]
 unfold bl at h
 rw[h]
structure NW (w W0:World) (x y z:Value):Prop where
 bel:Below w.heap.size w W0
 tG:iy W0 w.heap.size x y z
 tR:iy W0 (w.heap.size+1) (.slice none 0 0) (.slice none 0 0) (.slice none 0 0)
 z0:w.heap.size<W0.heap.size
 z1:w.heap.size+1<W0.heap.size
theorem Aw (w:World)(x y z:Value)(T:TypeId):NW w ((w.alloc (.cells #[x,y,z] T)).alloc (.cells #[.slice none 0 0,.slice none 0 0,.slice none 0 0] T)) x y z:=by
 refine⟨((Below.refl _ _).alloc (Nat.le_refl _) _).alloc (by simp) _, ?_, ?_,by simp;omega,by simp⟩
 ·constructor <;> simp[go_sem]
 ·constructor <;> simp[go_sem]
theorem EL (t:ByteArray)(w:World)(ht:t.size<=1000000):Calls Tryz.prog 65 #[.string t] w fun e w'=>MG (bl t) e/\w=w':=(Ff t w ht).mono fun _ _ h=>⟨h.1,h.2.symm⟩
set_option maxHeartbeats 3200000 in
theorem Gp (a0 a1 a2 a:Option Addr)(c0 c1 c2 cap:Nat)(g:aB)(u0:ByteArray)(r:List ByteArray)(w:World)(hg:dM g)(r0:dQ w a0 g.ins)(r1:iF w a1 g.wins)(r2:Row w a2 g.shown)(hw:AP w a cap (u0::r)) :
  Calls Tryz.prog 40 #[.agg #[.slice a0 g.ins.length c0,.slice a1 g.wins.length c1,.slice a2 g.shown.length c2],.slice a (r.length+1) cap] w fun e w'=>yS w w' g a0 a1 a2 c0 c1 c2 (jM g r) e/\Below w.heap.size w w':=by
 have hf:=hw.few
 have hcp:=hw.room
 have hcp2:=hw.room2
 unfold maxLen at hcp2
 simp only[List.length_cons]at hf hcp
 have hD:=Aw w (.slice a0 g.ins.length c0) (.slice a1 g.wins.length c1) (.slice a2 g.shown.length c2) 30
 by_cases h1:r.length<3
 ·have HQ:Hid (jM g r g tQ):=.inr ⟨fun x n m ⟨b,q,e,_,hq⟩=>by
   subst e
   have:=List.length_pos_iff.2 hq.1
   simp at h1
   omega,rfl,rfl⟩
  have hdec:(r.length:Int)+1<4:=by omega
  obtain⟨g0,g1,g2,_,_,_⟩:=id hD.tG
  obtain⟨x0,x1,x2,o0,o1,o2⟩:=id hD.tR
  clear hD
  go_enter Tryz.func40,Tryz.ntmps40
  go_wp2_with fail
  exact bodyPost_ret (v:=.tuple #[.agg #[.slice a0 g.ins.length c0,.slice a1 g.wins.length c1,.slice a2 g.shown.length c2],.string ⟨#[63]⟩]) (by simp[results,Tryz.results40,go_sem]) rfl ⟨yS.old HQ.out,((Below.refl _ _).alloc (Nat.le_refl _) _).alloc (by simp) _⟩
 obtain⟨x0,x1,q,hr,hq0⟩:∃x0 x1 q,r=x0::x1::q/\q≠[]:=by
  match r,h1 with
  |[],h=>simp at h
  |[_],h=>simp at h
  |[_,_],h=>simp at h
  |x::y::z::s,_=>exact⟨x,y,z::s,rfl,by simp⟩
 have h3:¬(r.length:Int)+1<4:=by omega
 have h3n:3<=r.length:=by omega
 clear h1
 have HR:Hid (r=x0::x1::q):=hr
 have HQ0:Hid (q≠[]):=hq0
 obtain⟨b,o,rfl,hblt,_⟩:=hw.row 0 (by simp)
 obtain⟨b',o',eq,_,cw1⟩:=hw.row 1 (by simp;omega)
 obtain⟨rfl,rfl⟩:b=b'/\o=o':=by simpa using eq
 have cw1:w.cell? ⟨b,o+1,none⟩=some (.string x0):=by simpa[hr]using cw1
 obtain⟨b',o',eq,_,cw2⟩:=hw.row 2 (by simp;omega)
 obtain⟨rfl,rfl⟩:b=b'/\o=o':=by simpa using eq
 have cw2:w.cell? ⟨b,o+2,none⟩=some (.string x1):=by simpa[hr]using cw2
 have hql:q.length=r.length-2:=by rw[hr];simp
 have hx1:x1.size<=3000:=hw.short x1 (by rw[hr];simp)
 have hrq:dQ w (some ⟨b,o+3,none⟩) q:=by
  have h:=hw.row.drop 3
  have e:(u0::r).drop 3=q:=by rw[hr];rfl
  rwa [e]at h
 have hqs:∀u∈q,u.size<=100000:=fun u hu=>by have:=hw.short u (by rw[hr];simp[hu]);omega
 clear eq hr hq0 hw
 obtain⟨W0,hW0⟩:∃W0,(w.alloc (.cells #[.slice a0 g.ins.length c0,.slice a1 g.wins.length c1,.slice a2 g.shown.length c2] 30)).alloc (.cells #[.slice none 0 0,.slice none 0 0,.slice none 0 0] 30)=W0:=⟨_,rfl⟩
 rw[hW0]at hD
 have HW0:Hid ((w.alloc (.cells #[.slice a0 g.ins.length c0,.slice a1 g.wins.length c1,.slice a2 g.shown.length c2] 30)).alloc (.cells #[.slice none 0 0,.slice none 0 0,.slice none 0 0] 30)=W0):=hW0
 clear hW0
 have B0:=hD.bel
 have z0:=hD.z0
 have z1:=hD.z1
 have dw1:=ae B0 hblt cw1
 have dw2:=ae B0 hblt cw2
 have cN:=EL x1 W0 (by omega)
 have cM:Calls Tryz.prog 66 #[.slice (some ⟨b,o+3,none⟩) (r.length-2) (cap-3)] W0 fun e w'=>WE w' W0.heap.size (q.map bl) e/\Below W0.heap.size W0 w':=by
  have:=Bg (some ⟨b,o+3,none⟩) (cap-3) q W0 (by omega) hqs (hrq.below B0)
  rwa [hql]at this
 have HQL:Hid (q.length=r.length-2):=hql
 have hc3:¬cap=3:=by omega
 have hc3':¬cap-3=0:=by omega
 have i2:(2:Int)<(r.length:Int)+1:=by omega
 have i1:(1:Int)<(r.length:Int)+1:=by omega
 have i3:(3:Int)<=(r.length:Int)+1:=by omega
 clear hql hqs hrq
 go_enter Tryz.func40,Tryz.ntmps40
 go_wp2_with (first|rw[HW0.out]|(go_at_call 65;refine cN.mono ?_))
 rintro e ⟨n,ok,rfl,hN⟩
 have HN:Hid (pV (bl x1) n ok):=hN
 clear hN cN
 go_wp2_with (go_at_call 66;refine cM.mono ?_)
 rintro e w2 ⟨⟨v1,m,ok1,rfl,gm,hWm⟩,b2⟩
 obtain⟨am,cm,rfl,rowm⟩:=gm.shape
 have B2:Below w.heap.size w w2:=B0.trans (b2.mono B0.size)
 have HA:Hid (NU q m ok1):=LV HQ0.out hWm
 have hst:ah m:=LU hWm
 have tG2:=hD.tG.keep b2
 have tR2:=hD.tR.keep b2
 have dw1':=ae b2 (by have:=B0.size;omega) dw1
 have z02:=Nat.lt_of_lt_of_le z0 b2.size
 have z12:=Nat.lt_of_lt_of_le z1 b2.size
 have HQ:Hid ((ok && ok1)=false->jM g r g tQ):=fun hf=>.inr ⟨fun y n' m' ⟨b,q',e,hn,hq⟩=>by
  rw[HR.out]at e
  simp only[List.cons.injEq]at e
  obtain⟨_,rfl,rfl⟩:=e
  rcases HN.out with⟨rfl,_⟩|⟨rfl,h⟩
  ·rcases HA.out with⟨rfl,_⟩|⟨rfl,h⟩
   ·cases hf
   ·exact h _ hq
  ·exact h _ hn,rfl,rfl⟩
 have r02:=r0.below B2
 have r12:=r1.below B2
 have r22:=r2.below B2
 clear hWm gm cM dw1 dw2 cw1 cw2 r0 r1 r2
 obtain⟨g0,g1,g2,_,_,_⟩:=id tG2
 by_cases hbad:(ok && ok1)=false
 ·obtain⟨x0',x1',x2',o0,o1,o2⟩:=id tR2
  have HB:Hid (Below w.heap.size w _):=bU B2 (Nat.le_succ _) (.slice a0 g.ins.length c0) (.slice a1 g.wins.length c1) (.slice a2 g.shown.length c2)
  have ⟨n0,n1,n2,_,_,_⟩:=tR2.set3 (.slice a0 g.ins.length c0) (.slice a1 g.wins.length c1) (.slice a2 g.shown.length c2)
  have HQ':Hid (jM g r g tQ):=HQ.out hbad
  cases ok
  ·go_wp2_with fail
   exact bodyPost_ret (v:=.tuple #[.agg #[.slice a0 g.ins.length c0,.slice a1 g.wins.length c1,.slice a2 g.shown.length c2],.string ⟨#[63]⟩]) (by simp[results,Tryz.results40,go_sem,n0,n1,n2]) rfl ⟨yS.old HQ'.out,HB.out⟩
  ·obtain rfl:ok1=false:=by simpa using hbad
   go_wp2_with fail
   exact bodyPost_ret (v:=.tuple #[.agg #[.slice a0 g.ins.length c0,.slice a1 g.wins.length c1,.slice a2 g.shown.length c2],.string ⟨#[63]⟩]) (by simp[results,Tryz.results40,go_sem,n0,n1,n2]) rfl ⟨yS.old HQ'.out,HB.out⟩
 obtain⟨rfl,rfl⟩:ok=true/\ok1=true:=by revert hbad;cases ok <;> cases ok1 <;> simp
 have HGP:Hid (jL r x0 n m):=by
  rcases HN.out with⟨_,h1⟩|⟨h,_⟩
  ·rcases HA.out with⟨_,h2⟩|⟨h,_⟩
   ·exact⟨x1,q,HR.out,h1,h2⟩
   ·cases h
  ·cases h
 have hnv:iw n:=by
  rcases HN.out with⟨_,h1⟩|⟨h,_⟩
  ·exact h1.2
  ·cases h
 clear hbad HQ HN HA
 have h6:=hg.nice.ins
 obtain⟨i,hi0⟩:∃i,Lib.idxOfS g.ins x0=i:=⟨_,rfl⟩
 have HI:Hid (Lib.idxOfS g.ins x0=i):=hi0
 have hilt:i<(g.ins.length:Int)∨i=-1:=by rw[<- hi0];exact Jz _ _
 have cA:∀n:dA w2,Calls Tryz.prog 67 #[.slice a0 g.ins.length c0,.string x0] n.w fun e w'=>e=.returned (.int .i64 i)/\Below n.w.heap.size n.w w':=fun n=>by
  rw[<- hi0];exact Ju a0 c0 g.ins x0 n.w (by omega) (r02.below n.h)
 have q0:∀n:dA w2,n.w.cell? ⟨w.heap.size,0,none⟩=some (.slice a0 g.ins.length c0):=fun n=>n.cell z02 g0
 have q1:∀n:dA w2,n.w.cell? ⟨b,o+1,none⟩=some (.string x0):=fun n=>n.cell (by omega) dw1'
 have hne:=dA.some w2
 clear hi0
 go_wp2_with fail
 refine aF (by kernel_rfl) (by kernel_rfl) ?_
 repeat (go_big_quiet_step ((go_at_call 67;exact Calls.lat_of (cA _))))
 refine wpQuiet_nil ?_
 rintro _ ⟨nq,rfl⟩
 have b3:=nq.h
 have B3:Below w.heap.size w nq.w:=B2.trans (b3.mono B2.size)
 have r03:=r02.below b3
 have r13:=r12.below b3
 have r23:=r22.below b3
 have rowm3:=rowm.below b3
 have tG3:=tG2.keep b3
 have tR3:=tR2.keep b3
 have z03:=Nat.lt_of_lt_of_le z02 b3.size
 have z13:=Nat.lt_of_lt_of_le z12 b3.size
 generalize nq.w=w3 at *
 clear q0 q1 cA hne r02 r12 r22 rowm tG2 tR2 g0 g1 g2 dw1'
 obtain⟨g0,g1,g2,_,_,_⟩:=id tG3
 by_cases hneg:i<0
 ·have HV:Hid (jM g r g Md):=.inl ⟨x0,n,m,HGP.out,.inl ⟨by rw[HI.out];exact hneg,rfl,rfl⟩⟩
  obtain⟨x0',x1',x2',o0,o1,o2⟩:=id tR3
  have HB:Hid (Below w.heap.size w _):=bU B3 (Nat.le_succ _) (.slice a0 g.ins.length c0) (.slice a1 g.wins.length c1) (.slice a2 g.shown.length c2)
  have ⟨n0,n1,n2,_,_,_⟩:=tR3.set3 (.slice a0 g.ins.length c0) (.slice a1 g.wins.length c1) (.slice a2 g.shown.length c2)
  go_wp2_with fail
  exact bodyPost_ret (v:=.tuple #[.agg #[.slice a0 g.ins.length c0,.slice a1 g.wins.length c1,.slice a2 g.shown.length c2],.string ⟨#[110,111]⟩]) (by simp[results,Tryz.results40,go_sem,n0,n1,n2]) rfl ⟨yS.old HV.out,HB.out⟩
 obtain⟨k,rfl⟩:∃k:Nat,i=(k:Int):=⟨i.toNat,by omega⟩
 have cG:=En a0 a1 a2 am c0 c1 c2 cm g (k:Int) n m w3 hg.fit (by omega) r03 r13 r23 (dH hst) rowm3
 go_wp2_with (go_at_call 68;refine cG.mono ?_)
 rintro e w4 hE b4
 obtain⟨R,rfl,e1,e2,hcal⟩:=hE.cal b4.size
 have B4:Below w.heap.size w w4:=B3.trans (b4.mono B3.size)
 have tG4:=tG3.keep b4
 have tR4:=tR3.keep b4
 have z04:=Nat.lt_of_lt_of_le z03 b4.size
 have z14:=Nat.lt_of_lt_of_le z13 b4.size
 have hpf:=hcal.put.facts hg hnv
 have hpn:=hcal.put.nice
 have HPU:Hid (mi g k n m R.g R.sv R.ss R.code):=hcal.put
 have hLl:R.L.length=R.g.wins.length:=by rw[<- hcal.map];simp
 have hro:=hcal.sg.rowsIn (g:=R.g) hcal.map
 rw[e1,e2]at hro
 have hsz:=hcal.sz
 have hss:=hcal.ss
 have hcp0:=hcal.cap
 have HNV:Hid (dM R.g):=hpf.1
 have HSV:Hid (∀v∈R.sv,iw v):=hpf.2.1
 have HC:Hid (R.code=0∨R.code=1∨R.code=2∨R.code=3∨R.code=4):=hpf.2.2
 have h6v:=hpn.2.1
 have hss2:=hpn.2.2
 obtain⟨W5,hW5⟩:∃W5,(w4.alloc (.cells #[.slice R.s0 R.g.ins.length R.d0,.slice R.s1 R.L.length R.d1,.slice R.s2 R.g.shown.length R.d2] 30)).alloc (.cells #[.slice R.s3 R.sv.length R.d3,.slice R.s4 R.ss.length R.d4] 73)=W5:=⟨_,rfl⟩
 have b5:Below w4.heap.size w4 W5:=by rw[<- hW5];exact((Below.refl _ _).alloc (Nat.le_refl _) _).alloc (by simp) _
 have tN:iy W5 w4.heap.size (.slice R.s0 R.g.ins.length R.d0) (.slice R.s1 R.g.wins.length R.d1) (.slice R.s2 R.g.shown.length R.d2):=by rw[<- hW5,<- hLl];constructor <;> simp[go_sem]
 have dN:Duo W5 (w4.heap.size+1) (.slice R.s3 R.sv.length R.d3) (.slice R.s4 R.ss.length R.d4):=by rw[<- hW5];constructor <;> simp[go_sem]
 have zN:w4.heap.size+1<W5.heap.size:=by rw[<- hW5];simp
 have HW5:Hid ((w4.alloc (.cells #[.slice R.s0 R.g.ins.length R.d0,.slice R.s1 R.L.length R.d1,.slice R.s2 R.g.shown.length R.d2] 30)).alloc (.cells #[.slice R.s3 R.sv.length R.d3,.slice R.s4 R.ss.length R.d4] 73)=W5):=hW5
 have B5:Below w.heap.size w W5:=B4.trans (b5.mono B4.size)
 have tG5:=tG4.keep b5
 have tR5:=tR4.keep b5
 have hsz5:=(hsz.below b5).row
 have hss5:=(hss.below b5).row
 have hro5:RowsIn w3.heap.size w4.heap.size W5 R.g R.s0 R.s1 R.s2:=hro.agree (iK b5)
 have z43:=b4.size
 clear hE cG tG3 tR3 r03 r13 r23 rowm3 g0 g1 g2 hcal hpf hpn hLl hro hsz hss hW5 tG4 tR4 e1 e2
 have HI2:Hid (Lib.idxOfS g.ins x0=(k:Int)):=HI.out
 unfold lV.all
 obtain⟨g0,g1,g2,_,_,_⟩:=id tG5
 obtain⟨y0,y1,y2,_,_,_⟩:=id tN
 obtain⟨u1,u2,_,_⟩:=id dN
 by_cases hc2:R.code=2
 ·have HV:Hid (jM g r g DW):=.inl ⟨x0,n,m,HGP.out,.inr ⟨by rw[HI2.out];omega,R.g,R.sv,R.ss,R.code,by rw[HI2.out];exact HPU.out,.inl ⟨hc2,rfl,rfl⟩⟩⟩
  have hcb:(R.code==2)=true:=by rw[hc2];rfl
  obtain⟨x0',x1',x2',o0,o1,o2⟩:=id tR5
  have HB:Hid (Below w.heap.size w _):=bU B5 (Nat.le_succ _) (.slice a0 g.ins.length c0) (.slice a1 g.wins.length c1) (.slice a2 g.shown.length c2)
  have ⟨n0,n1,n2,_,_,_⟩:=tR5.set3 (.slice a0 g.ins.length c0) (.slice a1 g.wins.length c1) (.slice a2 g.shown.length c2)
  clear hc2
  go_wp2_with (first|rw[HW5.out]|fail)
  exact bodyPost_ret (v:=.tuple #[.agg #[.slice a0 g.ins.length c0,.slice a1 g.wins.length c1,.slice a2 g.shown.length c2],.string ⟨#[98,97,100]⟩]) (by simp[results,Tryz.results40,go_sem,n0,n1,n2]) rfl ⟨yS.old HV.out,HB.out⟩
 have hcb:(R.code==2)=false:=by rw[beq_eq_false_iff_ne];exact hc2
 by_cases hc1:R.code=1
 ·have hcc:(R.code==1)=true:=by rw[hc1];rfl
  have HV:Hid (jM g r R.g (di++(dY R.sv++(KF++bl (dI R.ss))))):=.inl ⟨x0,n,m,HGP.out,.inr ⟨by rw[HI2.out];omega,R.g,R.sv,R.ss,R.code,by rw[HI2.out];exact HPU.out,.inr (.inl ⟨hc1,rfl,_,oO hss2,rfl⟩)⟩⟩
  have hbd:Below W5.heap.size W5 W5.drew:=(Below.refl _ _).drew
  have hnl:=jT HSV.out
  obtain⟨D,hDD⟩:∃D:ByteArray,(⟨(dY R.sv).toArray⟩:ByteArray)=D:=⟨_,rfl⟩
  have hDs:D.size<=200:=by
   rw[<- hDD]
   show(dY R.sv).toArray.size<=_
   simp
   omega
  have hsl:=jB hss2
  have cD:=fun W hW=>yz R.s3 R.d3 R.sv W h6v HSV.out (hsz5.below (w':=W) hW)
  have cT:=fun W hW=>mD R.s4 R.d4 R.ss W hss2 (hss5.below (w':=W) hW)
  rw[hDD]at cD
  have HE:Hid (bl ((⟨#[115,104,111,119,115,32]⟩:ByteArray)++D++⟨#[32,64,32]⟩++dI R.ss)=di++(dY R.sv++(KF++bl (dI R.ss)))):=by
   unfold bl Hid
   rw[au,au,au,<- hDD,List.append_assoc,List.append_assoc];rfl
  generalize dI R.ss=Z at *
  clear hDD hnl hc1 hc2
  have SW:(W5.drew).cell? ⟨w4.heap.size,0,none⟩=some (.slice R.s0 R.g.ins.length R.d0)/\(W5.drew).cell? ⟨w4.heap.size,1,none⟩=some (.slice R.s1 R.g.wins.length R.d1)/\(W5.drew).cell? ⟨w4.heap.size,2,none⟩=some (.slice R.s2 R.g.shown.length R.d2)/\(W5.drew).cell? ⟨w4.heap.size+1,0,none⟩=some (.slice R.s3 R.sv.length R.d3)/\(W5.drew).cell? ⟨w4.heap.size+1,1,none⟩=some (.slice R.s4 R.ss.length R.d4):=⟨y0,y1,y2,u1,u2⟩
  go_wp2_with (first|rw[HW5.out]|fail)
  refine wp_region_held_drew (S:=fun u=>(u).cell? ⟨w4.heap.size,0,none⟩=some (.slice R.s0 R.g.ins.length R.d0)/\(u).cell? ⟨w4.heap.size,1,none⟩=some (.slice R.s1 R.g.wins.length R.d1)/\(u).cell? ⟨w4.heap.size,2,none⟩=some (.slice R.s2 R.g.shown.length R.d2)/\(u).cell? ⟨w4.heap.size+1,0,none⟩=some (.slice R.s3 R.sv.length R.d3)/\(u).cell? ⟨w4.heap.size+1,1,none⟩=some (.slice R.s4 R.ss.length R.d4)) (by kernel_rfl) SW (fun _=>?_)
  refine wpAnyH_take (i:=0) (v:=.agg #[.slice R.s0 R.g.ins.length R.d0,.slice R.s1 R.g.wins.length R.d1,.slice R.s2 R.g.shown.length R.d2]) rfl (by kernel_rfl) (by kernel_rfl) (by kernel_rfl) (fun _ _ _ h=>h) (Or.inl ⟨by rfl, ?_⟩) SW ?_
  ·rintro u ⟨q1,q2,q3,q4,q5⟩
   go_simp
  simp only[Act.put,List.setIfInBounds_toArray]
  refine wpAnyH_take (i:=1) (v:=.pointer (some ⟨w4.heap.size+1,0,none⟩)) rfl (by kernel_rfl) (by kernel_rfl) (by kernel_rfl) (fun _ _ _ h=>h) (Or.inl ⟨by rfl, ?_⟩) SW ?_
  ·rintro u ⟨q1,q2,q3,q4,q5⟩
   go_simp
  simp only[Act.put]
  refine wpAnyH_take (i:=2) (v:=.slice R.s3 R.sv.length R.d3) rfl (by kernel_rfl) (by kernel_rfl) (by kernel_rfl) (fun _ _ _ h=>h) (Or.inl ⟨by rfl, ?_⟩) SW ?_
  ·rintro u ⟨q1,q2,q3,q4,q5⟩
   go_simp
  simp only[Act.put]
  refine wpAnyH_take (i:=6) (v:=.pointer (some ⟨w4.heap.size+1,1,none⟩)) rfl (by kernel_rfl) (by kernel_rfl) (by kernel_rfl) (fun _ _ _ h=>h) (Or.inl ⟨by rfl, ?_⟩) SW ?_
  ·rintro u ⟨q1,q2,q3,q4,q5⟩
   go_simp
  simp only[Act.put]
  refine wpAnyH_take (i:=7) (v:=.slice R.s4 R.ss.length R.d4) rfl (by kernel_rfl) (by kernel_rfl) (by kernel_rfl) (fun _ _ _ h=>h) (Or.inl ⟨by rfl, ?_⟩) SW ?_
  ·rintro u ⟨q1,q2,q3,q4,q5⟩
   go_simp
  simp only[Act.put]
  refine wpAnyH_ready (rs:=[3]) (by kernel_rfl) (by simp) ?_
  refine AllReadyH.cons rfl (fun K hK=>?_) AllReadyH.nil
  rw[if_pos (by rfl)]
  go_simp
  refine(cD _ hbd).mono ?_
  rintro e w6 ⟨rfl,b6⟩
  have b6d:=hbd.trans (b6.mono hbd.size)
  have S6:(w6).cell? ⟨w4.heap.size,0,none⟩=some (.slice R.s0 R.g.ins.length R.d0)/\(w6).cell? ⟨w4.heap.size,1,none⟩=some (.slice R.s1 R.g.wins.length R.d1)/\(w6).cell? ⟨w4.heap.size,2,none⟩=some (.slice R.s2 R.g.shown.length R.d2)/\(w6).cell? ⟨w4.heap.size+1,0,none⟩=some (.slice R.s3 R.sv.length R.d3)/\(w6).cell? ⟨w4.heap.size+1,1,none⟩=some (.slice R.s4 R.ss.length R.d4):=⟨ae b6d (by omega) y0,ae b6d (by omega) y1,ae b6d (by omega) y2,ae b6d zN u1,ae b6d zN u2⟩
  refine hK.out _ _ S6 (fun _=>?_)
  clear hK K SW
  refine wpAnyH_take (i:=4) (v:=.string (⟨#[115,104,111,119,115,32]⟩++D)) rfl (by kernel_rfl) (by kernel_rfl) (by kernel_rfl) (fun _ _ _ h=>h) (Or.inl ⟨by rfl, ?_⟩) S6 ?_
  ·rintro u ⟨q1,q2,q3,q4,q5⟩
   go_simp
   omega
  simp only[Act.put,List.setIfInBounds_toArray]
  refine wpAnyH_take (i:=5) (v:=.string (⟨#[115,104,111,119,115,32]⟩++D++⟨#[32,64,32]⟩)) rfl (by kernel_rfl) (by kernel_rfl) (by kernel_rfl) (fun _ _ _ h=>h) (Or.inl ⟨by rfl, ?_⟩) S6 ?_
  ·rintro u ⟨q1,q2,q3,q4,q5⟩
   go_simp
   omega
  simp only[Act.put]
  refine wpAnyH_ready (rs:=[8]) (by kernel_rfl) (by simp) ?_
  refine AllReadyH.cons rfl (fun K hK=>?_) AllReadyH.nil
  rw[if_pos (by rfl)]
  go_simp
  refine(cT _ b6d).mono ?_
  rintro e w7 ⟨rfl,b7⟩
  have b7d:=b6d.trans (b7.mono b6d.size)
  have S7:(w7).cell? ⟨w4.heap.size,0,none⟩=some (.slice R.s0 R.g.ins.length R.d0)/\(w7).cell? ⟨w4.heap.size,1,none⟩=some (.slice R.s1 R.g.wins.length R.d1)/\(w7).cell? ⟨w4.heap.size,2,none⟩=some (.slice R.s2 R.g.shown.length R.d2)/\(w7).cell? ⟨w4.heap.size+1,0,none⟩=some (.slice R.s3 R.sv.length R.d3)/\(w7).cell? ⟨w4.heap.size+1,1,none⟩=some (.slice R.s4 R.ss.length R.d4):=⟨ae b7d (by omega) y0,ae b7d (by omega) y1,ae b7d (by omega) y2,ae b7d zN u1,ae b7d zN u2⟩
  refine hK.out _ _ S7 (fun _=>?_)
  clear hK K S6
  refine wpAnyH_take (i:=9) (v:=.string (⟨#[115,104,111,119,115,32]⟩++D++⟨#[32,64,32]⟩++Z)) rfl (by kernel_rfl) (by kernel_rfl) (by kernel_rfl) (fun _ _ _ h=>h) (Or.inl ⟨by rfl, ?_⟩) S7 ?_
  ·rintro u ⟨q1,q2,q3,q4,q5⟩
   go_simp
   omega
  simp only[Act.put,List.setIfInBounds_toArray]
  have tR7:=tR5.keep b7d
  obtain⟨x0',x1',x2',o0,o1,o2⟩:=id tR7
  refine wpAnyH_ready (rs:=[10]) (by kernel_rfl) (by simp) ?_
  refine AllReadyH.cons rfl (fun K hK=>?_) AllReadyH.nil
  rw[if_pos (by rfl)]
  go_simp
  have sp:=jg w7 (w.heap.size+1) (.slice R.s0 R.g.ins.length R.d0) (.slice R.s1 R.g.wins.length R.d1) (.slice R.s2 R.g.shown.length R.d2)
  have tZ:=tR7.set3 (.slice R.s0 R.g.ins.length R.d0) (.slice R.s1 R.g.wins.length R.d1) (.slice R.s2 R.g.shown.length R.d2)
  have tN8:=(tN.keep b7d).span sp (by omega)
  have dN8:=(dN.keep b7d).span sp (by omega)
  have B7:Below w.heap.size w w7:=B5.trans (b7d.mono B5.size)
  have B8:Below w.heap.size w (((w7.setCell ⟨w.heap.size+1,0,none⟩ (.slice R.s0 R.g.ins.length R.d0)).setCell ⟨w.heap.size+1,1,none⟩ (.slice R.s1 R.g.wins.length R.d1)).setCell ⟨w.heap.size+1,2,none⟩ (.slice R.s2 R.g.shown.length R.d2)):=bU B7 (Nat.le_succ _) (.slice R.s0 R.g.ins.length R.d0) (.slice R.s1 R.g.wins.length R.d1) (.slice R.s2 R.g.shown.length R.d2)
  have hr8:=(hro5.agree (iK b7d)).agree (sp.agree (by omega))
  have z8:w4.heap.size<=(((w7.setCell ⟨w.heap.size+1,0,none⟩ (.slice R.s0 R.g.ins.length R.d0)).setCell ⟨w.heap.size+1,1,none⟩ (.slice R.s1 R.g.wins.length R.d1)).setCell ⟨w.heap.size+1,2,none⟩ (.slice R.s2 R.g.shown.length R.d2)).heap.size:=by have:=sp.size;have:=b7d.size;omega
  generalize ((w7.setCell ⟨w.heap.size+1,0,none⟩ (.slice R.s0 R.g.ins.length R.d0)).setCell ⟨w.heap.size+1,1,none⟩ (.slice R.s1 R.g.wins.length R.d1)).setCell ⟨w.heap.size+1,2,none⟩ (.slice R.s2 R.g.shown.length R.d2)=w8 at *
  have S8:(w8).cell? ⟨w4.heap.size,0,none⟩=some (.slice R.s0 R.g.ins.length R.d0)/\(w8).cell? ⟨w4.heap.size,1,none⟩=some (.slice R.s1 R.g.wins.length R.d1)/\(w8).cell? ⟨w4.heap.size,2,none⟩=some (.slice R.s2 R.g.shown.length R.d2)/\(w8).cell? ⟨w4.heap.size+1,0,none⟩=some (.slice R.s3 R.sv.length R.d3)/\(w8).cell? ⟨w4.heap.size+1,1,none⟩=some (.slice R.s4 R.ss.length R.d4):=⟨tN8.c0,tN8.c1,tN8.c2,dN8.c0,dN8.c1⟩
  refine hK.out _ _ S8 (fun _=>?_)
  clear hK K
  refine wpAnyH_ready (rs:=[11]) (by kernel_rfl) (by simp) ?_
  refine AllReadyH.cons rfl (fun K hK=>?_) AllReadyH.nil
  rw[if_pos (by rfl)]
  go_simp
  refine hK.out _ _ S8 (fun _=>?_)
  clear hK K
  refine wpAnyH_done (by kernel_rfl) ?_ _
  obtain⟨n0,n1,n2,_,_,_⟩:=id tZ
  go_wp2_with fail
  exact bodyPost_ret (v:=.tuple #[.agg #[.slice R.s0 R.g.ins.length R.d0,.slice R.s1 R.g.wins.length R.d1,.slice R.s2 R.g.shown.length R.d2],.string (⟨#[115,104,111,119,115,32]⟩++D++⟨#[32,64,32]⟩++Z)]) (by simp[results,Tryz.results40,go_sem,n0,n1,n2]) rfl ⟨yS.new hr8 (by omega) z8 HNV.out hcp0.1 hcp0.2 (by rw[HE.out];exact HV.out),B8⟩
 have hcc:(R.code==1)=false:=by rw[beq_eq_false_iff_ne];exact hc1
 have hcd:R.code=0∨R.code=3∨R.code=4:=by have:=HC.out;omega
 have HV:Hid (jM g r R.g (pJ R.code)):=.inl ⟨x0,n,m,HGP.out,.inr ⟨by rw[HI2.out];omega,R.g,R.sv,R.ss,R.code,by rw[HI2.out];exact HPU.out,.inr (.inr ⟨hc2,hc1,rfl,rfl⟩)⟩⟩
 have hbd:Below W5.heap.size W5 W5.drew:=(Below.refl _ _).drew
 have cD:=fun W=>ED R.code W hcd
 obtain⟨D,hDD⟩:∃D:ByteArray,(⟨(pJ R.code).toArray⟩:ByteArray)=D:=⟨_,rfl⟩
 have HE:Hid (bl D=pJ R.code):=by rw[Hid,<- hDD];simp[bl]
 rw[hDD]at cD
 clear hDD hc1 hc2 hcd
 have SW:(W5.drew).cell? ⟨w4.heap.size,0,none⟩=some (.slice R.s0 R.g.ins.length R.d0)/\(W5.drew).cell? ⟨w4.heap.size,1,none⟩=some (.slice R.s1 R.g.wins.length R.d1)/\(W5.drew).cell? ⟨w4.heap.size,2,none⟩=some (.slice R.s2 R.g.shown.length R.d2)/\(W5.drew).cell? ⟨w4.heap.size+1,0,none⟩=some (.slice R.s3 R.sv.length R.d3)/\(W5.drew).cell? ⟨w4.heap.size+1,1,none⟩=some (.slice R.s4 R.ss.length R.d4):=⟨y0,y1,y2,u1,u2⟩
 go_wp2_with (first|rw[HW5.out]|fail)
 refine wp_region_held_drew (S:=fun u=>(u).cell? ⟨w4.heap.size,0,none⟩=some (.slice R.s0 R.g.ins.length R.d0)/\(u).cell? ⟨w4.heap.size,1,none⟩=some (.slice R.s1 R.g.wins.length R.d1)/\(u).cell? ⟨w4.heap.size,2,none⟩=some (.slice R.s2 R.g.shown.length R.d2)/\(u).cell? ⟨w4.heap.size+1,0,none⟩=some (.slice R.s3 R.sv.length R.d3)/\(u).cell? ⟨w4.heap.size+1,1,none⟩=some (.slice R.s4 R.ss.length R.d4)) (by kernel_rfl) SW (fun _=>?_)
 refine wpAnyH_take (i:=0) (v:=.agg #[.slice R.s0 R.g.ins.length R.d0,.slice R.s1 R.g.wins.length R.d1,.slice R.s2 R.g.shown.length R.d2]) rfl (by kernel_rfl) (by kernel_rfl) (by kernel_rfl) (fun _ _ _ h=>h) (Or.inl ⟨by rfl, ?_⟩) SW ?_
 ·rintro u ⟨q1,q2,q3,q4,q5⟩
  go_simp
 simp only[Act.put,List.setIfInBounds_toArray]
 refine wpAnyH_take (i:=1) (v:=.int .i64 R.code) rfl (by kernel_rfl) (by kernel_rfl) (by kernel_rfl) (fun _ _ _ h=>h) (Or.inl ⟨by rfl, ?_⟩) SW ?_
 ·rintro u ⟨q1,q2,q3,q4,q5⟩
  go_simp
 simp only[Act.put]
 refine wpAnyH_ready (rs:=[2]) (by kernel_rfl) (by simp) ?_
 refine AllReadyH.cons rfl (fun K hK=>?_) AllReadyH.nil
 rw[if_pos (by rfl)]
 go_simp
 refine(cD _).mono ?_
 rintro e w6 ⟨rfl,b6⟩
 have b6d:=hbd.trans (b6.mono hbd.size)
 have S6:(w6).cell? ⟨w4.heap.size,0,none⟩=some (.slice R.s0 R.g.ins.length R.d0)/\(w6).cell? ⟨w4.heap.size,1,none⟩=some (.slice R.s1 R.g.wins.length R.d1)/\(w6).cell? ⟨w4.heap.size,2,none⟩=some (.slice R.s2 R.g.shown.length R.d2)/\(w6).cell? ⟨w4.heap.size+1,0,none⟩=some (.slice R.s3 R.sv.length R.d3)/\(w6).cell? ⟨w4.heap.size+1,1,none⟩=some (.slice R.s4 R.ss.length R.d4):=⟨ae b6d (by omega) y0,ae b6d (by omega) y1,ae b6d (by omega) y2,ae b6d zN u1,ae b6d zN u2⟩
 refine hK.out _ _ S6 (fun _=>?_)
 clear hK K SW
 have tR7:=tR5.keep b6d
 obtain⟨x0',x1',x2',o0,o1,o2⟩:=id tR7
 refine wpAnyH_ready (rs:=[3]) (by kernel_rfl) (by simp) ?_
 refine AllReadyH.cons rfl (fun K hK=>?_) AllReadyH.nil
 rw[if_pos (by rfl)]
 go_simp
 have sp:=jg w6 (w.heap.size+1) (.slice R.s0 R.g.ins.length R.d0) (.slice R.s1 R.g.wins.length R.d1) (.slice R.s2 R.g.shown.length R.d2)
 have tZ:=tR7.set3 (.slice R.s0 R.g.ins.length R.d0) (.slice R.s1 R.g.wins.length R.d1) (.slice R.s2 R.g.shown.length R.d2)
 have tN8:=(tN.keep b6d).span sp (by omega)
 have dN8:=(dN.keep b6d).span sp (by omega)
 have B7:Below w.heap.size w w6:=B5.trans (b6d.mono B5.size)
 have B8:Below w.heap.size w (((w6.setCell ⟨w.heap.size+1,0,none⟩ (.slice R.s0 R.g.ins.length R.d0)).setCell ⟨w.heap.size+1,1,none⟩ (.slice R.s1 R.g.wins.length R.d1)).setCell ⟨w.heap.size+1,2,none⟩ (.slice R.s2 R.g.shown.length R.d2)):=bU B7 (Nat.le_succ _) (.slice R.s0 R.g.ins.length R.d0) (.slice R.s1 R.g.wins.length R.d1) (.slice R.s2 R.g.shown.length R.d2)
 have hr8:=(hro5.agree (iK b6d)).agree (sp.agree (by omega))
 have z8:w4.heap.size<=(((w6.setCell ⟨w.heap.size+1,0,none⟩ (.slice R.s0 R.g.ins.length R.d0)).setCell ⟨w.heap.size+1,1,none⟩ (.slice R.s1 R.g.wins.length R.d1)).setCell ⟨w.heap.size+1,2,none⟩ (.slice R.s2 R.g.shown.length R.d2)).heap.size:=by have:=sp.size;have:=b6d.size;omega
 generalize ((w6.setCell ⟨w.heap.size+1,0,none⟩ (.slice R.s0 R.g.ins.length R.d0)).setCell ⟨w.heap.size+1,1,none⟩ (.slice R.s1 R.g.wins.length R.d1)).setCell ⟨w.heap.size+1,2,none⟩ (.slice R.s2 R.g.shown.length R.d2)=w8 at *
 have S8:(w8).cell? ⟨w4.heap.size,0,none⟩=some (.slice R.s0 R.g.ins.length R.d0)/\(w8).cell? ⟨w4.heap.size,1,none⟩=some (.slice R.s1 R.g.wins.length R.d1)/\(w8).cell? ⟨w4.heap.size,2,none⟩=some (.slice R.s2 R.g.shown.length R.d2)/\(w8).cell? ⟨w4.heap.size+1,0,none⟩=some (.slice R.s3 R.sv.length R.d3)/\(w8).cell? ⟨w4.heap.size+1,1,none⟩=some (.slice R.s4 R.ss.length R.d4):=⟨tN8.c0,tN8.c1,tN8.c2,dN8.c0,dN8.c1⟩
 refine hK.out _ _ S8 (fun _=>?_)
 clear hK K
 refine wpAnyH_ready (rs:=[4]) (by kernel_rfl) (by simp) ?_
 refine AllReadyH.cons rfl (fun K hK=>?_) AllReadyH.nil
 rw[if_pos (by rfl)]
 go_simp
 refine hK.out _ _ S8 (fun _=>?_)
 clear hK K
 refine wpAnyH_done (by kernel_rfl) ?_ _
 obtain⟨n0,n1,n2,_,_,_⟩:=id tZ
 go_wp2_with fail
 exact bodyPost_ret (v:=.tuple #[.agg #[.slice R.s0 R.g.ins.length R.d0,.slice R.s1 R.g.wins.length R.d1,.slice R.s2 R.g.shown.length R.d2],.string D]) (by simp[results,Tryz.results40,go_sem,n0,n1,n2]) rfl ⟨yS.new hr8 (by omega) z8 HNV.out hcp0.1 hcp0.2 (by rw[HE.out];exact HV.out),B8⟩
set_option maxHeartbeats 1600000 in
theorem JW (a0 a1 a2 a:Option Addr)(c0 c1 c2 cap:Nat)(g:aB)(u0:ByteArray)(r:List ByteArray)(w:World)(hg:dM g)(r0:dQ w a0 g.ins)(r1:iF w a1 g.wins)(r2:Row w a2 g.shown)(hw:AP w a cap (u0::r))(h:bl u0=mV) :
  Calls Tryz.prog 26 #[.agg #[.slice a0 g.ins.length c0,.slice a1 g.wins.length c1,.slice a2 g.shown.length c2],.slice a (r.length+1) cap] w fun e w'=>yS w w' g a0 a1 a2 c0 c1 c2 (fD g (bl u0) r) e/\Below w.heap.size w w':=by
 have hf:=hw.few
 have hcp:=hw.room
 have hcp2:=hw.room2
 unfold maxLen at hcp2
 simp only[List.length_cons]at hf hcp
 obtain⟨b,o,rfl,hlt,cw⟩:=hw.row 0 (by simp)
 have cw:w.cell? ⟨b,o,none⟩=some (.string u0):=cw
 have hD:=Aw w (.slice a0 g.ins.length c0) (.slice a1 g.wins.length c1) (.slice a2 g.shown.length c2) 30
 obtain⟨W0,hW0⟩:∃W0,(w.alloc (.cells #[.slice a0 g.ins.length c0,.slice a1 g.wins.length c1,.slice a2 g.shown.length c2] 30)).alloc (.cells #[.slice none 0 0,.slice none 0 0,.slice none 0 0] 30)=W0:=⟨_,rfl⟩
 rw[hW0]at hD
 have HW0:Hid ((w.alloc (.cells #[.slice a0 g.ins.length c0,.slice a1 g.wins.length c1,.slice a2 g.shown.length c2] 30)).alloc (.cells #[.slice none 0 0,.slice none 0 0,.slice none 0 0] 30)=W0):=hW0
 clear hW0
 have B0:=hD.bel
 have z0:=hD.z0
 have z1:=hD.z1
 have dw:=ae B0 hlt cw
 obtain⟨g0,g1,g2,_,_,_⟩:=id hD.tG
 have hpos:(0:Int)<(r.length:Int)+1:=by omega
 have k1:(u0.toList==[105,110,115])=false:=by rw[gB h];rfl
 have k2:(u0.toList==[112,117,116])=true:=by rw[gB h];rfl
 have k3:(u0.toList==[111,114,100,101,114])=false:=by rw[gB h];rfl
 have k4:(u0.toList==[106,111,105,110])=false:=by rw[gB h];rfl
 have k5:(u0.toList==[108,97,115,116])=false:=by rw[gB h];rfl
 have k6:(u0.toList==[99,111,117,110,116])=false:=by rw[gB h];rfl
 have k7:(u0.toList==[98,101,115,116])=false:=by rw[gB h];rfl
 have HO:Hid (bl u0=mV):=h
 have cP:=Gp a0 a1 a2 (some ⟨b,o,none⟩) c0 c1 c2 cap g u0 r W0 hg (r0.below B0) (r1.below B0) (r2.below B0) (hw.below B0)
 clear h
 go_enter Tryz.func26,Tryz.ntmps26
 go_wp2_with (first|rw[HW0.out]|(go_at_call 40;refine gG ?_))
 unfold Hid
 refine cP.mono ?_
 rintro e w1 ⟨⟨s,g',b0,b1,b2,d0,d1,d2,rfl,hT,hrs⟩,bb⟩
 have HT:Hid (fD g (bl u0) r g' (bl s)):=by rw[Hid,HO.out];exact oN hT
 have B1:Below w.heap.size w w1:=B0.trans (bb.mono B0.size)
 have tR1:=hD.tR.keep bb
 obtain⟨x0,x1,x2,o0,o1,o2⟩:=id tR1
 have sp:=jg w1 (w.heap.size+1) (.slice b0 g'.ins.length d0) (.slice b1 g'.wins.length d1) (.slice b2 g'.shown.length d2)
 have HB:Hid (Below w.heap.size w _):=bU B1 (Nat.le_succ _) (.slice b0 g'.ins.length d0) (.slice b1 g'.wins.length d1) (.slice b2 g'.shown.length d2)
 have ⟨n0,n1,n2,_,_,_⟩:=tR1.set3 (.slice b0 g'.ins.length d0) (.slice b1 g'.wins.length d1) (.slice b2 g'.shown.length d2)
 have HE:Hid (yS w (((w1.setCell ⟨w.heap.size+1,0,none⟩ (.slice b0 g'.ins.length d0)).setCell ⟨w.heap.size+1,1,none⟩ (.slice b1 g'.wins.length d1)).setCell ⟨w.heap.size+1,2,none⟩ (.slice b2 g'.shown.length d2)) g a0 a1 a2 c0 c1 c2 (fD g (bl u0) r) (.returned (.tuple #[.agg #[.slice b0 g'.ins.length d0,.slice b1 g'.wins.length d1,.slice b2 g'.shown.length d2],.string s]))):=by
  rcases hrs with⟨rfl,rfl,rfl,rfl,rfl,rfl,rfl⟩|⟨hr,hn,hc,hc2⟩
  ·exact yS.old HT.out
  ·exact yS.new (hr.agree (sp.agree (by omega))) (by omega) sp.size hn hc hc2 HT.out
 clear hT hrs cP sp
 go_wp2_with fail
 exact bodyPost_ret (v:=.tuple #[.agg #[.slice b0 g'.ins.length d0,.slice b1 g'.wins.length d1,.slice b2 g'.shown.length d2],.string s]) (by simp[results,Tryz.results26,go_sem,n0,n1,n2]) rfl ⟨HE.out,HB.out⟩
set_option maxHeartbeats 1600000 in
theorem Jk (a0 a1 a2 a:Option Addr)(c0 c1 c2 cap:Nat)(g:aB)(u0:ByteArray)(r:List ByteArray)(w:World)(hw:AP w a cap (u0::r))(h:bl u0=mF)(hne:r≠[]) :
  Calls Tryz.prog 26 #[.agg #[.slice a0 g.ins.length c0,.slice a1 g.wins.length c1,.slice a2 g.shown.length c2],.slice a (r.length+1) cap] w fun e w'=>yS w w' g a0 a1 a2 c0 c1 c2 (fD g (bl u0) r) e/\Below w.heap.size w w':=by
 have hf:=hw.few
 have hcp:=hw.room
 have hcp2:=hw.room2
 unfold maxLen at hcp2
 simp only[List.length_cons]at hf hcp
 obtain⟨b,o,rfl,hlt,cw⟩:=hw.row 0 (by simp)
 have cw:w.cell? ⟨b,o,none⟩=some (.string u0):=cw
 have hD:=Aw w (.slice a0 g.ins.length c0) (.slice a1 g.wins.length c1) (.slice a2 g.shown.length c2) 30
 obtain⟨W0,hW0⟩:∃W0,(w.alloc (.cells #[.slice a0 g.ins.length c0,.slice a1 g.wins.length c1,.slice a2 g.shown.length c2] 30)).alloc (.cells #[.slice none 0 0,.slice none 0 0,.slice none 0 0] 30)=W0:=⟨_,rfl⟩
 rw[hW0]at hD
 have HW0:Hid ((w.alloc (.cells #[.slice a0 g.ins.length c0,.slice a1 g.wins.length c1,.slice a2 g.shown.length c2] 30)).alloc (.cells #[.slice none 0 0,.slice none 0 0,.slice none 0 0] 30)=W0):=hW0
 clear hW0
 have B0:=hD.bel
 have z0:=hD.z0
 have z1:=hD.z1
 have dw:=ae B0 hlt cw
 obtain⟨g0,g1,g2,_,_,_⟩:=id hD.tG
 have hpos:(0:Int)<(r.length:Int)+1:=by omega
 have k1:(u0.toList==[105,110,115])=true:=by rw[gB h];rfl
 have k2:(u0.toList==[112,117,116])=false:=by rw[gB h];rfl
 have k3:(u0.toList==[111,114,100,101,114])=false:=by rw[gB h];rfl
 have k4:(u0.toList==[106,111,105,110])=false:=by rw[gB h];rfl
 have k5:(u0.toList==[108,97,115,116])=false:=by rw[gB h];rfl
 have k6:(u0.toList==[99,111,117,110,116])=false:=by rw[gB h];rfl
 have k7:(u0.toList==[98,101,115,116])=false:=by rw[gB h];rfl
 have HO:Hid (bl u0=mF):=h
 have HNE:Hid (r≠[]):=hne
 have hr1:=List.length_pos_iff.2 hne
 have hl:(1:Int)<(r.length:Int)+1:=by omega
 have hl2:(1:Int)<=(r.length:Int)+1:=by omega
 have hc1:¬cap=1:=by omega
 have hc2:¬cap-1=0:=by omega
 have cN:=xI (some ⟨b,o+1,none⟩) (cap-1) r W0 (by omega) ((hw.row.drop 1).below B0) (fun j hj=>by have:=hw.short _ (List.mem_cons_of_mem _ (List.getElem_mem hj));unfold maxLen;omega)
 clear h hne
 go_enter Tryz.func26,Tryz.ntmps26
 go_wp2_with (first|rw[HW0.out]|(go_at_call 5;refine gG ?_))
 unfold Hid
 refine cN.mono ?_
 rintro e w1 ⟨hE,b1⟩
 have B1:Below w.heap.size w w1:=B0.trans (b1.mono B0.size)
 have tR1:=hD.tR.keep b1
 have tG1:=hD.tG.keep b1
 rcases hE.start with⟨e0,p0,e1,p1,e2,p2,L,rfl,hN,hm,hS,hc0,hc1'⟩|⟨rfl,hN⟩
 ·have hP:fG r:=by
   rcases hN with⟨_,h,_⟩|⟨h,_⟩
   ·exact h
   ·cases h
  have hLl:L.length=(bJ r).wins.length:=by rw[<- hm];simp
  have hrows:=hS.rowsIn (g:=bJ r) hm
  rw[hLl]
  have hv:=Ez hP
  have HT:Hid (fD g (bl u0) r (bJ r) MQ):=by rw[Hid,HO.out];exact lF (.inr (.inl ⟨HNE.out,hP,rfl,rfl⟩))
  have bx:Below w1.heap.size w1 (w1.alloc (.cells #[.slice e0 r.length p0,.slice e1 (bJ r).wins.length p1,.slice e2 0 p2] 30)):=(Below.refl _ _).alloc (Nat.le_refl _) _
  have tx:=aQ w1 (.slice e0 r.length p0) (.slice e1 (bJ r).wins.length p1) (.slice e2 0 p2) 30
  have tR2:=tR1.keep bx
  have B2:=B1.trans (bx.mono B1.size)
  have hrows2:=hrows.agree (u:=w1.alloc (.cells #[.slice e0 r.length p0,.slice e1 (bJ r).wins.length p1,.slice e2 0 p2] 30)) (iK bx)
  have z2:=bx.size
  clear hE hN hm hS hLl hrows hP
  obtain⟨W2,hW2⟩:∃W2,w1.alloc (.cells #[.slice e0 r.length p0,.slice e1 (bJ r).wins.length p1,.slice e2 0 p2] 30)=W2:=⟨_,rfl⟩
  rw[hW2]at bx tx tR2 B2 hrows2 z2
  have HW2:Hid (w1.alloc (.cells #[.slice e0 r.length p0,.slice e1 (bJ r).wins.length p1,.slice e2 0 p2] 30)=W2):=hW2
  clear hW2
  obtain⟨y0,y1,y2,_,_,_⟩:=id tx
  obtain⟨x0,x1,x2,o0,o1,o2⟩:=id tR2
  have sp:=jg W2 (w.heap.size+1) (.slice e0 r.length p0) (.slice e1 (bJ r).wins.length p1) (.slice e2 0 p2)
  have HB:Hid (Below w.heap.size w _):=bU B2 (Nat.le_succ _) (.slice e0 r.length p0) (.slice e1 (bJ r).wins.length p1) (.slice e2 0 p2)
  have ⟨n0,n1,n2,_,_,_⟩:=tR2.set3 (.slice e0 r.length p0) (.slice e1 (bJ r).wins.length p1) (.slice e2 0 p2)
  have HR:Hid (RowsIn W0.heap.size w1.heap.size _ (bJ r) e0 e1 e2):=hrows2.agree (sp.agree (by omega))
  have HZ:Hid (w1.heap.size<=(((W2.setCell ⟨w.heap.size+1,0,none⟩ (.slice e0 r.length p0)).setCell ⟨w.heap.size+1,1,none⟩ (.slice e1 (bJ r).wins.length p1)).setCell ⟨w.heap.size+1,2,none⟩ (.slice e2 0 p2)).heap.size):=Nat.le_trans z2 sp.size
  clear hrows2 sp
  go_wp2_with (first|rw[HW2.out]|fail)
  exact bodyPost_ret (v:=.tuple #[.agg #[.slice e0 r.length p0,.slice e1 (bJ r).wins.length p1,.slice e2 0 p2],.string ⟨#[111,107]⟩]) (by simp[results,Tryz.results26,go_sem,n0,n1,n2]) rfl ⟨yS.new (g':=bJ r) HR.out (by omega) HZ.out hv hc0 hc1' HT.out,HB.out⟩
 ·have hP:¬fG r:=by
   rcases hN with⟨h,_⟩|⟨_,h,_⟩
   ·cases h
   ·exact h
  have HT:Hid (fD g (bl u0) r g Md):=by rw[Hid,HO.out];exact lF (.inr (.inr ⟨HNE.out,hP,rfl,rfl⟩))
  clear hE hN hP g0 g1 g2
  obtain⟨g0,g1,g2,_,_,_⟩:=id tG1
  obtain⟨x0,x1,x2,o0,o1,o2⟩:=id tR1
  have y0:=Nat.lt_of_lt_of_le z0 b1.size
  have y1:=Nat.lt_of_lt_of_le z1 b1.size
  have hb3:=bU B1 (b:=w.heap.size+1) (Nat.le_succ _) (.slice a0 g.ins.length c0) (.slice a1 g.wins.length c1) (.slice a2 g.shown.length c2)
  have HB:Hid (Below w.heap.size w _):=hb3.alloc hb3.size (.cells #[.slice none 0 0,.slice none 0 0,.slice none 0 0] 30)
  clear hb3
  have ⟨n0,n1,n2,_,_,_⟩:=(tR1.set3 (.slice a0 g.ins.length c0) (.slice a1 g.wins.length c1) (.slice a2 g.shown.length c2)).keep ((Below.refl _ _).alloc (Nat.le_refl _) (.cells #[.slice none 0 0,.slice none 0 0,.slice none 0 0] 30))
  go_wp2_with fail
  exact bodyPost_ret (v:=.tuple #[.agg #[.slice a0 g.ins.length c0,.slice a1 g.wins.length c1,.slice a2 g.shown.length c2],.string ⟨#[110,111]⟩]) (by simp[results,Tryz.results26,go_sem,n0,n1,n2]) rfl ⟨yS.old HT.out,HB.out⟩
end Go.Proofs.YtpfhegengmlkmabGreatDoor
