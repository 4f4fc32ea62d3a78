/- Texts of this claim. -/
import Derived.Test.YtpfhegengmlkmabGreatDoorZu43
import Derived.Test.YtpfhegengmlkmabGreatDoorZu46
namespace Go.Proofs.YtpfhegengmlkmabGreatDoor
open Go.RowKit Go.BigFrame
set_option maxRecDepth 100000
set_option maxHeartbeats 1600000 in
theorem Bh (t:ByteArray)(c:UInt8)(w:World)(ht:t.size<=2000000) :
  Calls Tryz.prog 25 #[.string t,.int .u8 (c.toNat:Int)] w fun e w'=>(∃v us,e=.returned v/\aI w' w.heap.size v us/\us.map bl=aj c (bl t))/\Below w.heap.size w w':=by
 obtain⟨i0,hi,hz0,hz1,hz2⟩:=info_parts Tryz.infoS
 go_enter Tryz.func25,Tryz.ntmps25
 go_wp2_with fail
 go_loopw [5,6,7] (fun out av iv wr=>∃a i:Nat,a<=i/\i<=t.size/\av=.int .i64 a/\iv=.int .i64 i/\∃o,aI wr w.heap.size out o/\o.length<=i/\o.map bl++aj c ((bl t).drop a)=aj c (bl t)/\c∉((bl t).take i).drop a/\Below w.heap.size w wr) (fun _ _ iv _=>t.size-(intOf iv).toNat)
 case atStart=>exact⟨0,0,Nat.le_refl _,Nat.zero_le _,rfl,rfl,[],jr _ _,by simp,by simp,by simp,Below.refl _ _⟩
 case round=>
  obtain⟨a,i,hai,hit,rfl,rfl,o,hg,hol,hsp,hno,hbl⟩:=hrel
  have hzr:=hbl.size
  by_cases hlt:i<t.size
  ·have hat:=iQ t i hlt
   by_cases hc:t[i]=c
   ·have hc':((t[i].toNat:Int)==(c.toNat:Int))=true:=by rw[hc];simp
    have HS:Hid (aj c ((bl t).drop a)=((bl t).take i).drop a::aj c ((bl t).drop (i+1))):=zD hai (by rw[hat,hc]) hno
    have HSP:Hid (o.map bl++aj c ((bl t).drop a)=aj c (bl t)):=hsp
    have hg4:wr.ownsRow w.heap.size 9 1 _ o.length (o.map .string):=hg
    clear hsp hno hat
    go_wp2_with (at_builtin;refine wpList_append_lies _ rfl _ _ 23 rfl w.heap.size 9 i0 (.string .empty) 1 16 Tryz.underlying23 hi hz0 hz1 hz2 rfl (by decide) _ _ _ rfl (hg4.alloc _) ⟨wr.heap.size,0,none⟩ 1 1 [.string (t.extract a i)] rfl rfl (fA wr _ _) (by simp[Value.oneCell']) (by decide) (by unfold maxLen;omega) (by omega) (by simp;omega) _ rfl ?_;intro g' cap' w5 hown' hgrow _ _)
    have hob:=aN hg4
    refine⟨⟨i+1,i+1,Nat.le_refl _,by omega,by go_num,by go_num,o++[t.extract a i],aI.snoc hown',by simp;omega, ?_,by simp,(hbl.alloc hzr _).grown hgrow (by simp;omega) hob⟩,by simp[intOf];omega⟩
    rw[<- HSP.out,HS.out,List.map_append,List.append_assoc,List.map_singleton,iG]
    rfl
   ·have hc':((t[i].toNat:Int)==(c.toNat:Int))=false:=by
     rw[beq_eq_false_iff_ne]
     exact fun e=>hc (UInt8.toNat_inj.1 (by omega))
    have HN:Hid (c∉((bl t).take (i+1)).drop a):=zt hai hat hc hno
    have HSP:Hid (o.map bl++aj c ((bl t).drop a)=aj c (bl t)):=hsp
    clear hsp hno hat
    go_wp2_with fail
    exact⟨⟨a,i+1,by omega,by omega,rfl,by go_num,o,hg,by omega,HSP.out,HN.out,hbl⟩,by simp[intOf];omega⟩
  ·have HS:Hid (aj c ((bl t).drop a)=[(bl t).drop a]):=dV (by rw[List.take_of_length_le (by rw[ak];omega)]at hno;exact hno)
   have HSP:Hid (o.map bl++aj c ((bl t).drop a)=aj c (bl t)):=hsp
   have hg4:wr.ownsRow w.heap.size 9 1 _ o.length (o.map .string):=hg
   clear hsp hno
   go_wp2_with (at_builtin;refine wpList_append_lies _ rfl _ _ 23 rfl w.heap.size 9 i0 (.string .empty) 1 16 Tryz.underlying23 hi hz0 hz1 hz2 rfl (by decide) _ _ _ rfl (hg4.alloc _) ⟨wr.heap.size,0,none⟩ 1 1 [.string (t.extract a t.size)] rfl rfl (fA wr _ _) (by simp[Value.oneCell']) (by decide) (by unfold maxLen;omega) (by omega) (by simp;omega) _ rfl ?_;intro g' cap' w5 hown' hgrow _ _)
   have hob:=aN hg4
   go_ret
   refine⟨⟨_,o++[t.extract a t.size],rfl,aI.snoc hown', ?_⟩,(hbl.alloc hzr _).grown hgrow (by simp;omega) hob⟩
   rw[<- HSP.out,HS.out,List.map_append,List.map_singleton,iG,List.take_of_length_le (by rw[ak];omega)]
def KZ (wr wZ:World)(g:aB)(a0 a1 a2:Option Addr)(c0 c1 c2:Nat)(T:aB->List UInt8->Prop)(b7:Nat)(g':aB)(b0 b1 b2:Option Addr)(d0 d1 d2:Nat)(s:ByteArray):Prop:=
 T g' (bl s)/\Below wr.heap.size wr wZ/\wr.heap.size<=b7/\b7<wZ.heap.size/\iy wZ b7 (.slice none 0 0) (.slice none 0 0) (.slice none 0 0) /\
  ((g'=g/\b0=a0/\b1=a1/\b2=a2/\d0=c0/\d1=c1/\d2=c2)∨∃lo hi,RowsIn lo hi wZ g' b0 b1 b2/\dM g'/\(g'.ins.length<=d0/\d0<=maxLen)/\wr.heap.size<=lo/\hi<=wZ.heap.size/\(b7<lo∨hi<=b7))
theorem Ap {wr x y wZ:World}{g:aB}{a0 a1 a2:Option Addr}{c0 c1 c2:Nat}{T:aB->List UInt8->Prop}{b7:Nat}{g':aB}{b0 b1 b2:Option Addr}{d0 d1 d2:Nat}{s:ByteArray}(hT:T g' (bl s))
  (hr:(g'=g/\b0=a0/\b1=a1/\b2=a2/\d0=c0/\d1=c1/\d2=c2)∨(RowsIn x.heap.size y.heap.size y g' b0 b1 b2/\dM g'/\g'.ins.length<=d0/\d0<=maxLen)) (hx:Below wr.heap.size wr x) (hz:Below y.heap.size y wZ) (hB:Below wr.heap.size wr wZ) (h7:wr.heap.size<=b7) (h8:b7<wZ.heap.size) (tr:iy wZ b7 (.slice none 0 0) (.slice none 0 0) (.slice none 0 0)) (hd:b7<x.heap.size∨y.heap.size<=b7) :
  KZ wr wZ g a0 a1 a2 c0 c1 c2 T b7 g' b0 b1 b2 d0 d1 d2 s:=by
 refine⟨hT,hB,h7,h8,tr, ?_⟩
 rcases hr with hr|⟨h1,h2,h3,h4⟩
 ·exact .inl hr
 ·exact .inr ⟨x.heap.size,y.heap.size,h1.agree (iK hz),h2,⟨h3,h4⟩,hx.size,hz.size,hd⟩
def NM (l:ByteArray)(w':World)(e:Ending):Prop:=∃a cap u0 r,e=.returned (.slice a (List.length r+1) cap)/\aZ 32 l=u0::r/\AP w' a cap (u0::r)
theorem zo (l:ByteArray)(w:World)(hl:l.size<=3000):Calls Tryz.prog 25 #[.string l,.int .u8 32] w fun e w'=>NM l w' e/\Below w.heap.size w w':=by
 refine(Fb l w (by omega)).mono ?_
 rintro e w' ⟨⟨v,us,rfl,hg,hus⟩,hb⟩
 refine⟨?_,hb⟩
 have hc:=EP hus
 obtain⟨a,cap,rfl,h1,h2,hrow⟩:=hg.rows
 obtain⟨u0,r,hur⟩:∃u0 r,aZ 32 l=u0::r:=List.exists_cons_of_ne_nil (FM 32 l)
 have hsz:=nP hus
 have hfree:∀x∈us,(32:UInt8)∉bl x:=fun x hx=>zn (t:=l) (by rw[<- hc];exact hx)
 obtain rfl:us=u0::r:=hc.trans hur
 exact⟨a,cap,u0,r,rfl,hur,hrow,by omega,fun x hx=>by have:=hsz.2 x hx;omega,h1,h2,hfree⟩
def Jd (t:ByteArray)(e:Ending):Prop:=∃s,e=.returned (.string s)/\lT t s
theorem D8 (t:ByteArray)(w:World)(ht:t.size<=2000000):Calls Tryz.prog 25 #[.string t,.int .u8 10] w fun e w'=>(∃a cap,e=.returned (.slice a (aZ 10 t).length cap)/\(aZ 10 t).length<=cap/\dQ w' a (aZ 10 t))/\Below w.heap.size w w':=by
 have h:Calls Tryz.prog 25 #[.string t,.int .u8 10] w fun e w'=>(∃v us,e=.returned v/\aI w' w.heap.size v us/\us.map bl=aj 10 (bl t))/\Below w.heap.size w w':=Bh t 10 w ht
 refine h.mono ?_
 rintro e w' ⟨⟨v,us,rfl,hg,hus⟩,hb⟩
 obtain⟨a,cap,rfl,h1,_,hrow⟩:=hg.rows
 rw[EP hus]at h1 hrow ⊢
 exact⟨⟨a,cap,rfl,h1,hrow⟩,hb⟩
def MS (u0:ByteArray)(r:List ByteArray):Prop:=∀(a0 a1 a2 a:Option Addr) (c0 c1 c2 cap:Nat) (g:aB) (w:World),dM g->dQ w a0 g.ins->iF w a1 g.wins->Row w a2 g.shown->AP w a cap (u0::r) ->
  Calls Tryz.prog 26 #[.agg #[.slice a0 g.ins.length c0,.slice a1 g.wins.length c1,.slice a2 g.shown.length c2],.slice a (r.length+1) cap] w fun e w'=>yS w w' g a0 a1 a2 c0 c1 c2 (fD g (bl u0) r) e/\Below w.heap.size w w'
set_option maxHeartbeats 3200000 in
theorem Dp (t:ByteArray)(w:World)(ht:t.size<=2000000)(hdc:¬xh t->∀l∈aZ 10 t,bl l≠[]->∀u0 r,aZ 32 l=u0::r->MS u0 r) :
  Calls Tryz.prog 9 #[.string t] w fun e w'=>Jd t e/\Below w.heap.size w w':=by
 have HDC:Hid (¬xh t->∀l∈aZ 10 t,bl l≠[]->∀u0 r,aZ 32 l=u0::r->MS u0 r):=hdc
 clear hdc
 go_enter Tryz.func9,Tryz.ntmps9
 have cS:=D8 t w ht
 have hcs:=nP (ny 10 t)
 go_wp2_with (go_at_call 25;refine gG ?_)
 unfold Hid
 refine cS.mono ?_
 rintro e w1 ⟨⟨aL,capL,rfl,hcp,hrow⟩,b1⟩
 have HL0:Hid (xh t->Jd t (.returned (.string ⟨#[108,111,110,103,10]⟩))):=fun h=>⟨_,rfl,.inl ⟨h,rfl⟩⟩
 clear cS
 by_cases hl:3000<t.size
 ·have HL:Hid (Jd t (.returned (.string ⟨#[108,111,110,103,10]⟩))):=HL0.out (.inl hl)
  have hl':(3000:Int)<(t.size:Int):=by omega
  clear hcs
  go_wp2_with fail
  go_ret
  exact⟨HL.out,b1⟩
 have hl':¬(3000:Int)<(t.size:Int):=by omega
 by_cases hm:80<(aZ 10 t).length
 ·have HL:Hid (Jd t (.returned (.string ⟨#[108,111,110,103,10]⟩))):=HL0.out (.inr hm)
  have hm':(80:Int)<((aZ 10 t).length:Int):=by omega
  clear hcs
  go_wp2_with fail
  go_ret
  exact⟨HL.out,b1⟩
 have hm':¬(80:Int)<((aZ 10 t).length:Int):=by omega
 have HNL:Hid (¬xh t):=fun h=>by rcases h with h|h <;> omega
 replace HDC:Hid (∀l∈aZ 10 t,bl l≠[]->∀u0 r,aZ 32 l=u0::r->MS u0 r):=HDC.out HNL.out
 have HSZ:Hid (∀x∈aZ 10 t,x.size<=3000):=fun x hx=>by have:=hcs.2 x hx;omega
 have hn80:(aZ 10 t).length<=80:=by omega
 obtain⟨ls,hls⟩:∃ls,aZ 10 t=ls:=⟨_,rfl⟩
 have HLS:Hid (aZ 10 t=ls):=hls
 rw[hls]at hrow hcp HSZ hn80 hm' HDC
 rw[hls]
 clear hls HL0 hcs hm
 have bx:Below w1.heap.size w1 (w1.alloc (.cells #[.slice none 0 0,.slice none 0 0,.slice none 0 0] 30)):=(Below.refl _ _).alloc (Nat.le_refl _) _
 have tx:=aQ w1 (.slice none 0 0) (.slice none 0 0) (.slice none 0 0) 30
 have zx:w1.heap.size<(w1.alloc (.cells #[.slice none 0 0,.slice none 0 0,.slice none 0 0] 30)).heap.size:=by simp
 go_wp2_with fail
 generalize w1.alloc (.cells #[.slice none 0 0,.slice none 0 0,.slice none 0 0] 30)=W2 at *
 have ht0:jb W2 w1.heap.size W2.heap.size W2.heap.size fF none none none 0 0 0:=⟨tx,qK _ _ _ _ _ _,nJ,Nat.le_refl _,.inl zx,⟨Nat.le_refl _,Nat.zero_le _⟩,zx⟩
 go_loopw [5,6] (fun out iv wr=>∃(k glo ghi:Nat) (g:aB) (a0 a1 a2:Option Addr) (d0 d1 d2:Nat) (s:ByteArray),k<=ls.length/\iv=.int .i64 k/\out=.string s/\jb wr w1.heap.size glo ghi g a0 a1 a2 d0 d1 d2/\s.size<=k*1001/\Hid (dX (ls.take k) g (bl s))/\Below w1.heap.size w1 wr) (fun _ iv _=>ls.length-(intOf iv).toNat)
 case atStart=>exact⟨0,_,_,_,_,_,_,_,_,_,_,Nat.zero_le _,rfl,rfl,ht0,Nat.zero_le _,by rw[List.take_zero];exact .nil,bx⟩
 case round=>
  clear ht0 tx bx zx
  obtain⟨k,glo,ghi,g,a0,a1,a2,d0,d1,d2,s,hk,rfl,rfl,hT,hsl,HT,bw⟩:=hrel
  have hzr:=bw.size
  by_cases hlt:k<ls.length
  ·obtain⟨bL,oL,rfl,hbL,cl⟩:=hrow k hlt
   have cl1:=ae bw hbL cl
   have k0:(0:Int)<=(k:Int):=by omega
   have k1:(k:Int)<(ls.length:Int):=by omega
   have hst:=yJ hlt HT.out
   have hsz:ls[k].size<=3000:=HSZ.out _ (List.getElem_mem hlt)
   by_cases he:bl ls[k]=[]
   ·have HT2:Hid (dX (ls.take (k+1)) g (bl s)):=hst.1 he
    have heq:(ls[k].toList==[])=true:=by rw[ByteArray.toList_eq];unfold bl at he;rw[he];rfl
    clear hst he
    go_wp2_with fail
    exact⟨⟨k+1,glo,ghi,g,a0,a1,a2,d0,d1,d2,s,by omega,by go_num,rfl,hT,by omega,HT2,bw⟩,by simp[intOf];omega⟩
   ·have heq:(ls[k].toList==[])=false:=by rw[ByteArray.toList_eq,beq_eq_false_iff_ne];exact he
    have HST:Hid (∀g' t,fP g (aZ 32 ls[k]) g' t->dX (ls.take (k+1)) g' (bl s++(t++[10]))):=fun g' t h=>hst.2 g' t he h
    have HDK:Hid (∀u0 r,aZ 32 ls[k]=u0::r->MS u0 r):=HDC.out _ (List.getElem_mem hlt) he
    clear hst he
    go_wp2_with fail
    obtain⟨g0,g1,g2,_,_,_⟩:=id hT.tri
    obtain⟨r0,r1,r2⟩:=hT.rows.here
    have hbd:Below wr.heap.size wr wr.drew:=(Below.refl _ _).drew
    have SW:(wr.drew).cell? ⟨w1.heap.size,0,none⟩=some (.slice a0 g.ins.length d0)/\(wr.drew).cell? ⟨w1.heap.size,1,none⟩=some (.slice a1 g.wins.length d1)/\(wr.drew).cell? ⟨w1.heap.size,2,none⟩=some (.slice a2 g.shown.length d2)/\(wr.drew).cell? ⟨bL,oL+k,none⟩=some (.string ls[k]):=⟨ae hbd hT.lt g0,ae hbd hT.lt g1,ae hbd hT.lt g2,ae hbd (by omega) cl1⟩
    refine wp_region_held_drew (S:=fun u=>(u).cell? ⟨w1.heap.size,0,none⟩=some (.slice a0 g.ins.length d0)/\(u).cell? ⟨w1.heap.size,1,none⟩=some (.slice a1 g.wins.length d1)/\(u).cell? ⟨w1.heap.size,2,none⟩=some (.slice a2 g.shown.length d2)/\(u).cell? ⟨bL,oL+k,none⟩=some (.string ls[k])) (by kernel_rfl) SW (fun _=>?_)
    refine wpAnyH_take (i:=0) (v:=.agg #[.slice a0 g.ins.length d0,.slice a1 g.wins.length d1,.slice a2 g.shown.length d2]) rfl (by kernel_rfl) (by kernel_rfl) (by kernel_rfl) (fun _ _ _ h=>h) (Or.inl ⟨by rfl, ?_⟩) SW ?_
    ·rintro u ⟨q1,q2,q3,q4⟩
     go_simp
    simp only[Act.put,List.setIfInBounds_toArray]
    refine wpAnyH_take (i:=1) (v:=.slice (some ⟨bL,oL,none⟩) ls.length capL) rfl (by kernel_rfl) (by kernel_rfl) (by kernel_rfl) (fun _ _ _ h=>h) (Or.inl ⟨by rfl, ?_⟩) SW ?_
    ·rintro u ⟨q1,q2,q3,q4⟩
     go_simp
    simp only[Act.put]
    refine wpAnyH_take (i:=2) (v:=.int .i64 k) rfl (by kernel_rfl) (by kernel_rfl) (by kernel_rfl) (fun _ _ _ h=>h) (Or.inl ⟨by rfl, ?_⟩) SW ?_
    ·rintro u ⟨q1,q2,q3,q4⟩
     go_simp
    simp only[Act.put]
    refine wpAnyH_take (i:=3) (v:=.pointer (some ⟨bL,oL+k,none⟩)) rfl (by kernel_rfl) (by kernel_rfl) (by kernel_rfl) (fun _ _ _ h=>h) (Or.inl ⟨by rfl, ?_⟩) SW ?_
    ·rintro u ⟨q1,q2,q3,q4⟩
     go_simp
    simp only[Act.put]
    refine wpAnyH_take (i:=4) (v:=.string ls[k]) rfl (by kernel_rfl) (by kernel_rfl) (by kernel_rfl) (fun _ _ _ h=>h) (Or.inl ⟨by rfl, ?_⟩) SW ?_
    ·rintro u ⟨q1,q2,q3,q4⟩
     go_simp
    simp only[Act.put]
    refine wpAnyH_ready (rs:=[5,10]) (by kernel_rfl) (by simp) ?_
    refine AllReadyH.cons rfl (fun K hK=>?_) (AllReadyH.cons rfl (fun K hK=>?_) AllReadyH.nil)
    ·rw[if_pos (by rfl)]
     go_simp
     refine(zo ls[k] _ hsz).mono ?_
     rintro e x1 ⟨⟨a,cap,u0,r,rfl,hur,hwd⟩,c1⟩
     have b1x:=hbd.trans (c1.mono hbd.size)
     have S1:(x1).cell? ⟨w1.heap.size,0,none⟩=some (.slice a0 g.ins.length d0)/\(x1).cell? ⟨w1.heap.size,1,none⟩=some (.slice a1 g.wins.length d1)/\(x1).cell? ⟨w1.heap.size,2,none⟩=some (.slice a2 g.shown.length d2)/\(x1).cell? ⟨bL,oL+k,none⟩=some (.string ls[k]):=⟨ae b1x hT.lt g0,ae b1x hT.lt g1,ae b1x hT.lt g2,ae b1x (by omega) cl1⟩
     refine hK.out _ _ S1 (fun _=>?_)
     clear hK K
     refine wpAnyH_ready (rs:=[6,10]) (by kernel_rfl) (by simp) ?_
     refine AllReadyH.cons rfl (fun K hK=>?_) (AllReadyH.cons rfl (fun K hK=>?_) AllReadyH.nil)
     ·rw[if_pos (by rfl)]
      go_simp
      refine(HDK.out u0 r hur a0 a1 a2 a d0 d1 d2 cap g _ hT.nice (r0.below b1x) (r1.below b1x) (r2.below b1x) hwd).mono ?_
      rintro e x2 ⟨⟨s',g',b0,b1,b2,k0',k1',k2',rfl,hTT,hrs⟩,c2⟩
      have b2x:=b1x.trans (c2.mono b1x.size)
      have S2:(x2).cell? ⟨w1.heap.size,0,none⟩=some (.slice a0 g.ins.length d0)/\(x2).cell? ⟨w1.heap.size,1,none⟩=some (.slice a1 g.wins.length d1)/\(x2).cell? ⟨w1.heap.size,2,none⟩=some (.slice a2 g.shown.length d2)/\(x2).cell? ⟨bL,oL+k,none⟩=some (.string ls[k]):=⟨ae b2x hT.lt g0,ae b2x hT.lt g1,ae b2x hT.lt g2,ae b2x (by omega) cl1⟩
      refine hK.out _ _ S2 (fun _=>?_)
      clear hK K
      refine wpAnyH_take (i:=7) (v:=.tuple #[.agg #[.slice b0 g'.ins.length k0',.slice b1 g'.wins.length k1',.slice b2 g'.shown.length k2'],.string s']) rfl (by kernel_rfl) (by kernel_rfl) (by kernel_rfl) (fun _ _ _ h=>h) (Or.inl ⟨by rfl, ?_⟩) S2 ?_
      ·rintro u ⟨q1,q2,q3,q4⟩
       go_simp
      simp only[Act.put,List.setIfInBounds_toArray]
      refine wpAnyH_take (i:=8) (v:=.agg #[.slice b0 g'.ins.length k0',.slice b1 g'.wins.length k1',.slice b2 g'.shown.length k2']) rfl (by kernel_rfl) (by kernel_rfl) (by kernel_rfl) (fun _ _ _ h=>h) (Or.inl ⟨by rfl, ?_⟩) S2 ?_
      ·rintro u ⟨q1,q2,q3,q4⟩
       go_simp
      simp only[Act.put]
      refine wpAnyH_take (i:=9) (v:=.string s') rfl (by kernel_rfl) (by kernel_rfl) (by kernel_rfl) (fun _ _ _ h=>h) (Or.inl ⟨by rfl, ?_⟩) S2 ?_
      ·rintro u ⟨q1,q2,q3,q4⟩
       go_simp
      simp only[Act.put]
      refine wpAnyH_ready (rs:=[10]) (by kernel_rfl) (by simp) ?_
      refine AllReadyH.cons rfl (fun K hK=>?_) AllReadyH.nil
      rw[if_pos (by rfl)]
      go_simp
      have bx:Below x2.heap.size x2 (x2.alloc (.cells #[.slice none 0 0,.slice none 0 0,.slice none 0 0] 30)):=(Below.refl _ _).alloc (Nat.le_refl _) _
      have b3x:=b2x.trans (bx.mono b2x.size)
      have trx:=aQ x2 (.slice none 0 0) (.slice none 0 0) (.slice none 0 0) 30
      have l7:x2.heap.size<(x2.alloc (.cells #[.slice none 0 0,.slice none 0 0,.slice none 0 0] 30)).heap.size:=by simp
      have S3:(x2.alloc (.cells #[.slice none 0 0,.slice none 0 0,.slice none 0 0] 30)).cell? ⟨w1.heap.size,0,none⟩=some (.slice a0 g.ins.length d0)/\(x2.alloc (.cells #[.slice none 0 0,.slice none 0 0,.slice none 0 0] 30)).cell? ⟨w1.heap.size,1,none⟩=some (.slice a1 g.wins.length d1)/\(x2.alloc (.cells #[.slice none 0 0,.slice none 0 0,.slice none 0 0] 30)).cell? ⟨w1.heap.size,2,none⟩=some (.slice a2 g.shown.length d2)/\(x2.alloc (.cells #[.slice none 0 0,.slice none 0 0,.slice none 0 0] 30)).cell? ⟨bL,oL+k,none⟩=some (.string ls[k]):=⟨ae b3x hT.lt g0,ae b3x hT.lt g1,ae b3x hT.lt g2,ae b3x (by omega) cl1⟩
      refine hK.out _ _ S3 (fun _=>?_)
      clear hK K
      obtain⟨x3,hx3⟩:∃x3,x2.alloc (.cells #[.slice none 0 0,.slice none 0 0,.slice none 0 0] 30)=x3:=⟨_,rfl⟩
      rw[hx3]at bx b3x trx l7 S3 ⊢
      clear hx3
      have hM:KZ wr x3 g a0 a1 a2 d0 d1 d2 (fun g' t=>fP g (aZ 32 ls[k]) g' t) x2.heap.size g' b0 b1 b2 k0' k1' k2' s':=Ap (x:=x1) (y:=x2) ⟨u0,r,hur,hTT⟩ hrs b1x bx b3x b2x.size l7 trx (.inr (Nat.le_refl _))
      clear hTT hrs trx
      obtain⟨hTT,BZ,h7,h8,tr,hrs⟩:=hM
      obtain⟨t0,t1,t2,f0,f1,f2⟩:=id tr
      refine wpAnyH_ready (rs:=[11]) (by kernel_rfl) (by simp) ?_
      refine AllReadyH.cons rfl (fun K hK=>?_) AllReadyH.nil
      rw[if_pos (by rfl)]
      go_simp
      have sp:=jg x3 x2.heap.size (.slice b0 g'.ins.length k0') (.slice b1 g'.wins.length k1') (.slice b2 g'.shown.length k2')
      have tN:=tr.set3 (.slice b0 g'.ins.length k0') (.slice b1 g'.wins.length k1') (.slice b2 g'.shown.length k2')
      have B9:Below wr.heap.size wr ((((x3).setCell ⟨x2.heap.size,0,none⟩ (.slice b0 g'.ins.length k0')).setCell ⟨x2.heap.size,1,none⟩ (.slice b1 g'.wins.length k1')).setCell ⟨x2.heap.size,2,none⟩ (.slice b2 g'.shown.length k2')):=bU BZ h7 (.slice b0 g'.ins.length k0') (.slice b1 g'.wins.length k1') (.slice b2 g'.shown.length k2')
      have hrs9:(g'=g/\b0=a0/\b1=a1/\b2=a2/\k0'=d0/\k1'=d1/\k2'=d2)∨∃lo hi,RowsIn lo hi ((((x3).setCell ⟨x2.heap.size,0,none⟩ (.slice b0 g'.ins.length k0')).setCell ⟨x2.heap.size,1,none⟩ (.slice b1 g'.wins.length k1')).setCell ⟨x2.heap.size,2,none⟩ (.slice b2 g'.shown.length k2')) g' b0 b1 b2/\dM g'/\(g'.ins.length<=k0'/\k0'<=maxLen)/\wr.heap.size<=lo/\hi<=((((x3).setCell ⟨x2.heap.size,0,none⟩ (.slice b0 g'.ins.length k0')).setCell ⟨x2.heap.size,1,none⟩ (.slice b1 g'.wins.length k1')).setCell ⟨x2.heap.size,2,none⟩ (.slice b2 g'.shown.length k2')).heap.size:=by
       rcases hrs with h|⟨lo,hi,m1,m2,m3,m4,m5,m6⟩
       ·exact .inl h
       ·exact .inr ⟨lo,hi,m1.agree (sp.agree (by omega)),m2,m3,m4,Nat.le_trans m5 sp.size⟩
      have l9:x2.heap.size<((((x3).setCell ⟨x2.heap.size,0,none⟩ (.slice b0 g'.ins.length k0')).setCell ⟨x2.heap.size,1,none⟩ (.slice b1 g'.wins.length k1')).setCell ⟨x2.heap.size,2,none⟩ (.slice b2 g'.shown.length k2')).heap.size:=Nat.lt_of_lt_of_le h8 sp.size
      generalize (((x3).setCell ⟨x2.heap.size,0,none⟩ (.slice b0 g'.ins.length k0')).setCell ⟨x2.heap.size,1,none⟩ (.slice b1 g'.wins.length k1')).setCell ⟨x2.heap.size,2,none⟩ (.slice b2 g'.shown.length k2')=x9 at *
      have S9:(x9).cell? ⟨w1.heap.size,0,none⟩=some (.slice a0 g.ins.length d0)/\(x9).cell? ⟨w1.heap.size,1,none⟩=some (.slice a1 g.wins.length d1)/\(x9).cell? ⟨w1.heap.size,2,none⟩=some (.slice a2 g.shown.length d2)/\(x9).cell? ⟨bL,oL+k,none⟩=some (.string ls[k]):=⟨ae B9 hT.lt g0,ae B9 hT.lt g1,ae B9 hT.lt g2,ae B9 (by omega) cl1⟩
      refine hK.out _ _ S9 (fun _=>?_)
      clear hK K
      refine wpAnyH_ready (rs:=[12]) (by kernel_rfl) (by simp) ?_
      refine AllReadyH.cons rfl (fun K hK=>?_) AllReadyH.nil
      rw[if_pos (by rfl)]
      go_simp
      refine hK.out _ _ S9 (fun _=>?_)
      clear hK K
      refine wpAnyH_done (by kernel_rfl) ?_ _
      have ht9:=hT.below B9
      have ne7:¬x2.heap.size=w1.heap.size:=by have:=hT.lt;omega
      have HTS:Hid (∃glo' ghi',jb ((((x9).setCell ⟨w1.heap.size,0,none⟩ (.slice b0 g'.ins.length k0')).setCell ⟨w1.heap.size,1,none⟩ (.slice b1 g'.wins.length k1')).setCell ⟨w1.heap.size,2,none⟩ (.slice b2 g'.shown.length k2')) w1.heap.size glo' ghi' g' b0 b1 b2 k0' k1' k2'):=by
       rcases hrs9 with⟨rfl,rfl,rfl,rfl,rfl,rfl,rfl⟩|⟨lo,hi,m1,m2,m3,m4,m5⟩
       ·exact⟨glo,ghi,ht9.set _ _ _ ht9.rows ht9.nice ht9.glt ht9.box ht9.cap⟩
       ·exact⟨lo,hi,ht9.set _ _ _ m1 m2 m5 (.inl (by have:=hT.lt;omega)) m3⟩
      have HBX:Hid (Below w1.heap.size w1 ((((x9).setCell ⟨w1.heap.size,0,none⟩ (.slice b0 g'.ins.length k0')).setCell ⟨w1.heap.size,1,none⟩ (.slice b1 g'.wins.length k1')).setCell ⟨w1.heap.size,2,none⟩ (.slice b2 g'.shown.length k2'))):=bU (bw.trans (B9.mono hzr)) (Nat.le_refl _) (.slice b0 g'.ins.length k0') (.slice b1 g'.wins.length k1') (.slice b2 g'.shown.length k2')
      have hsl':s'.size<=1000:=by
       obtain⟨x,y,_,hz⟩:=hTT
       rw[<- ak]
       exact(hz.facts hT.nice).2
      have HRT:Hid (dX (ls.take (k+1)) g' (bl (s++s'++⟨#[10]⟩))):=by
       have h:=HST.out _ _ hTT
       have e:bl (s++s'++(⟨#[10]⟩:ByteArray))=bl s++(bl s'++[10]):=by
        unfold bl
        rw[au,au,List.append_assoc]
       rw[Hid,e]
       exact h
      obtain⟨p0,p1,p2,o0,o1,o2⟩:=id ht9.tri
      obtain⟨y0,y1,y2,_,_,_⟩:=id tN
      have hs80:s.size<=80080:=by
       have:=Nat.mul_le_mul_right 1001 (Nat.le_trans hk hn80)
       omega
      clear hTT hrs hrs9 tr tN sp BZ S9 SW S1 S2 S3
      go_wp2_with fail
      obtain⟨glo',ghi',hTS⟩:=HTS.out
      exact⟨⟨k+1,glo',ghi',g',_,_,_,_,_,_,_,by omega,by go_num,rfl,hTS,by simp only[ByteArray.size_append];have e1:(⟨#[10]⟩:ByteArray).size=1:=rfl;omega,HRT,HBX.out⟩,by simp[intOf];omega⟩
     ·rw[if_pos (by rfl)]
      go_simp
      have bx:Below x1.heap.size x1 (x1.alloc (.cells #[.slice none 0 0,.slice none 0 0,.slice none 0 0] 30)):=(Below.refl _ _).alloc (Nat.le_refl _) _
      have b2x:=b1x.trans (bx.mono b1x.size)
      have trx:=aQ x1 (.slice none 0 0) (.slice none 0 0) (.slice none 0 0) 30
      have l7:x1.heap.size<(x1.alloc (.cells #[.slice none 0 0,.slice none 0 0,.slice none 0 0] 30)).heap.size:=by simp
      have S2:(x1.alloc (.cells #[.slice none 0 0,.slice none 0 0,.slice none 0 0] 30)).cell? ⟨w1.heap.size,0,none⟩=some (.slice a0 g.ins.length d0)/\(x1.alloc (.cells #[.slice none 0 0,.slice none 0 0,.slice none 0 0] 30)).cell? ⟨w1.heap.size,1,none⟩=some (.slice a1 g.wins.length d1)/\(x1.alloc (.cells #[.slice none 0 0,.slice none 0 0,.slice none 0 0] 30)).cell? ⟨w1.heap.size,2,none⟩=some (.slice a2 g.shown.length d2)/\(x1.alloc (.cells #[.slice none 0 0,.slice none 0 0,.slice none 0 0] 30)).cell? ⟨bL,oL+k,none⟩=some (.string ls[k]):=⟨ae b2x hT.lt g0,ae b2x hT.lt g1,ae b2x hT.lt g2,ae b2x (by omega) cl1⟩
      refine hK.out _ _ S2 (fun _=>?_)
      clear hK K
      obtain⟨x2,hx2⟩:∃x2,x1.alloc (.cells #[.slice none 0 0,.slice none 0 0,.slice none 0 0] 30)=x2:=⟨_,rfl⟩
      rw[hx2]at bx b2x trx l7 S2 ⊢
      clear hx2
      refine wpAnyH_ready (rs:=[6]) (by kernel_rfl) (by simp) ?_
      refine AllReadyH.cons rfl (fun K hK=>?_) AllReadyH.nil
      rw[if_pos (by rfl)]
      go_simp
      refine(HDK.out u0 r hur a0 a1 a2 a d0 d1 d2 cap g _ hT.nice (r0.below b2x) (r1.below b2x) (r2.below b2x) (hwd.below bx)).mono ?_
      rintro e x3 ⟨⟨s',g',b0,b1,b2,k0',k1',k2',rfl,hTT,hrs⟩,c2⟩
      have b3x:=b2x.trans (c2.mono b2x.size)
      have S3:(x3).cell? ⟨w1.heap.size,0,none⟩=some (.slice a0 g.ins.length d0)/\(x3).cell? ⟨w1.heap.size,1,none⟩=some (.slice a1 g.wins.length d1)/\(x3).cell? ⟨w1.heap.size,2,none⟩=some (.slice a2 g.shown.length d2)/\(x3).cell? ⟨bL,oL+k,none⟩=some (.string ls[k]):=⟨ae b3x hT.lt g0,ae b3x hT.lt g1,ae b3x hT.lt g2,ae b3x (by omega) cl1⟩
      refine hK.out _ _ S3 (fun _=>?_)
      clear hK K
      refine wpAnyH_take (i:=7) (v:=.tuple #[.agg #[.slice b0 g'.ins.length k0',.slice b1 g'.wins.length k1',.slice b2 g'.shown.length k2'],.string s']) rfl (by kernel_rfl) (by kernel_rfl) (by kernel_rfl) (fun _ _ _ h=>h) (Or.inl ⟨by rfl, ?_⟩) S3 ?_
      ·rintro u ⟨q1,q2,q3,q4⟩
       go_simp
      simp only[Act.put,List.setIfInBounds_toArray]
      refine wpAnyH_take (i:=8) (v:=.agg #[.slice b0 g'.ins.length k0',.slice b1 g'.wins.length k1',.slice b2 g'.shown.length k2']) rfl (by kernel_rfl) (by kernel_rfl) (by kernel_rfl) (fun _ _ _ h=>h) (Or.inl ⟨by rfl, ?_⟩) S3 ?_
      ·rintro u ⟨q1,q2,q3,q4⟩
       go_simp
      simp only[Act.put]
      refine wpAnyH_take (i:=9) (v:=.string s') rfl (by kernel_rfl) (by kernel_rfl) (by kernel_rfl) (fun _ _ _ h=>h) (Or.inl ⟨by rfl, ?_⟩) S3 ?_
      ·rintro u ⟨q1,q2,q3,q4⟩
       go_simp
      simp only[Act.put]
      have hM:KZ wr x3 g a0 a1 a2 d0 d1 d2 (fun g' t=>fP g (aZ 32 ls[k]) g' t) x1.heap.size g' b0 b1 b2 k0' k1' k2' s':=Ap (x:=x2) (y:=x3) ⟨u0,r,hur,hTT⟩ hrs b2x (Below.refl _ _) b3x b1x.size (Nat.lt_of_lt_of_le l7 c2.size) (trx.keep c2) (.inl l7)
      clear hTT hrs trx
      obtain⟨hTT,BZ,h7,h8,tr,hrs⟩:=hM
      obtain⟨t0,t1,t2,f0,f1,f2⟩:=id tr
      refine wpAnyH_ready (rs:=[11]) (by kernel_rfl) (by simp) ?_
      refine AllReadyH.cons rfl (fun K hK=>?_) AllReadyH.nil
      rw[if_pos (by rfl)]
      go_simp
      have sp:=jg x3 x1.heap.size (.slice b0 g'.ins.length k0') (.slice b1 g'.wins.length k1') (.slice b2 g'.shown.length k2')
      have tN:=tr.set3 (.slice b0 g'.ins.length k0') (.slice b1 g'.wins.length k1') (.slice b2 g'.shown.length k2')
      have B9:Below wr.heap.size wr ((((x3).setCell ⟨x1.heap.size,0,none⟩ (.slice b0 g'.ins.length k0')).setCell ⟨x1.heap.size,1,none⟩ (.slice b1 g'.wins.length k1')).setCell ⟨x1.heap.size,2,none⟩ (.slice b2 g'.shown.length k2')):=bU BZ h7 (.slice b0 g'.ins.length k0') (.slice b1 g'.wins.length k1') (.slice b2 g'.shown.length k2')
      have hrs9:(g'=g/\b0=a0/\b1=a1/\b2=a2/\k0'=d0/\k1'=d1/\k2'=d2)∨∃lo hi,RowsIn lo hi ((((x3).setCell ⟨x1.heap.size,0,none⟩ (.slice b0 g'.ins.length k0')).setCell ⟨x1.heap.size,1,none⟩ (.slice b1 g'.wins.length k1')).setCell ⟨x1.heap.size,2,none⟩ (.slice b2 g'.shown.length k2')) g' b0 b1 b2/\dM g'/\(g'.ins.length<=k0'/\k0'<=maxLen)/\wr.heap.size<=lo/\hi<=((((x3).setCell ⟨x1.heap.size,0,none⟩ (.slice b0 g'.ins.length k0')).setCell ⟨x1.heap.size,1,none⟩ (.slice b1 g'.wins.length k1')).setCell ⟨x1.heap.size,2,none⟩ (.slice b2 g'.shown.length k2')).heap.size:=by
       rcases hrs with h|⟨lo,hi,m1,m2,m3,m4,m5,m6⟩
       ·exact .inl h
       ·exact .inr ⟨lo,hi,m1.agree (sp.agree (by omega)),m2,m3,m4,Nat.le_trans m5 sp.size⟩
      have l9:x1.heap.size<((((x3).setCell ⟨x1.heap.size,0,none⟩ (.slice b0 g'.ins.length k0')).setCell ⟨x1.heap.size,1,none⟩ (.slice b1 g'.wins.length k1')).setCell ⟨x1.heap.size,2,none⟩ (.slice b2 g'.shown.length k2')).heap.size:=Nat.lt_of_lt_of_le h8 sp.size
      generalize (((x3).setCell ⟨x1.heap.size,0,none⟩ (.slice b0 g'.ins.length k0')).setCell ⟨x1.heap.size,1,none⟩ (.slice b1 g'.wins.length k1')).setCell ⟨x1.heap.size,2,none⟩ (.slice b2 g'.shown.length k2')=x9 at *
      have S9:(x9).cell? ⟨w1.heap.size,0,none⟩=some (.slice a0 g.ins.length d0)/\(x9).cell? ⟨w1.heap.size,1,none⟩=some (.slice a1 g.wins.length d1)/\(x9).cell? ⟨w1.heap.size,2,none⟩=some (.slice a2 g.shown.length d2)/\(x9).cell? ⟨bL,oL+k,none⟩=some (.string ls[k]):=⟨ae B9 hT.lt g0,ae B9 hT.lt g1,ae B9 hT.lt g2,ae B9 (by omega) cl1⟩
      refine hK.out _ _ S9 (fun _=>?_)
      clear hK K
      refine wpAnyH_ready (rs:=[12]) (by kernel_rfl) (by simp) ?_
      refine AllReadyH.cons rfl (fun K hK=>?_) AllReadyH.nil
      rw[if_pos (by rfl)]
      go_simp
      refine hK.out _ _ S9 (fun _=>?_)
      clear hK K
      refine wpAnyH_done (by kernel_rfl) ?_ _
      have ht9:=hT.below B9
      have ne7:¬x1.heap.size=w1.heap.size:=by have:=hT.lt;omega
      have HTS:Hid (∃glo' ghi',jb ((((x9).setCell ⟨w1.heap.size,0,none⟩ (.slice b0 g'.ins.length k0')).setCell ⟨w1.heap.size,1,none⟩ (.slice b1 g'.wins.length k1')).setCell ⟨w1.heap.size,2,none⟩ (.slice b2 g'.shown.length k2')) w1.heap.size glo' ghi' g' b0 b1 b2 k0' k1' k2'):=by
       rcases hrs9 with⟨rfl,rfl,rfl,rfl,rfl,rfl,rfl⟩|⟨lo,hi,m1,m2,m3,m4,m5⟩
       ·exact⟨glo,ghi,ht9.set _ _ _ ht9.rows ht9.nice ht9.glt ht9.box ht9.cap⟩
       ·exact⟨lo,hi,ht9.set _ _ _ m1 m2 m5 (.inl (by have:=hT.lt;omega)) m3⟩
      have HBX:Hid (Below w1.heap.size w1 ((((x9).setCell ⟨w1.heap.size,0,none⟩ (.slice b0 g'.ins.length k0')).setCell ⟨w1.heap.size,1,none⟩ (.slice b1 g'.wins.length k1')).setCell ⟨w1.heap.size,2,none⟩ (.slice b2 g'.shown.length k2'))):=bU (bw.trans (B9.mono hzr)) (Nat.le_refl _) (.slice b0 g'.ins.length k0') (.slice b1 g'.wins.length k1') (.slice b2 g'.shown.length k2')
      have hsl':s'.size<=1000:=by
       obtain⟨x,y,_,hz⟩:=hTT
       rw[<- ak]
       exact(hz.facts hT.nice).2
      have HRT:Hid (dX (ls.take (k+1)) g' (bl (s++s'++⟨#[10]⟩))):=by
       have h:=HST.out _ _ hTT
       have e:bl (s++s'++(⟨#[10]⟩:ByteArray))=bl s++(bl s'++[10]):=by
        unfold bl
        rw[au,au,List.append_assoc]
       rw[Hid,e]
       exact h
      obtain⟨p0,p1,p2,o0,o1,o2⟩:=id ht9.tri
      obtain⟨y0,y1,y2,_,_,_⟩:=id tN
      have hs80:s.size<=80080:=by
       have:=Nat.mul_le_mul_right 1001 (Nat.le_trans hk hn80)
       omega
      clear hTT hrs hrs9 tr tN sp BZ S9 SW S1 S2 S3
      go_wp2_with fail
      obtain⟨glo',ghi',hTS⟩:=HTS.out
      exact⟨⟨k+1,glo',ghi',g',_,_,_,_,_,_,_,by omega,by go_num,rfl,hTS,by simp only[ByteArray.size_append];have e1:(⟨#[10]⟩:ByteArray).size=1:=rfl;omega,HRT,HBX.out⟩,by simp[intOf];omega⟩
    ·rw[if_pos (by rfl)]
     go_simp
     have b1x:Below wr.heap.size wr ((wr.alloc (.cells #[.slice none 0 0,.slice none 0 0,.slice none 0 0] 30)).drew):=((Below.refl _ _).alloc (Nat.le_refl _) _).drew
     have trx:iy ((wr.alloc (.cells #[.slice none 0 0,.slice none 0 0,.slice none 0 0] 30)).drew) wr.heap.size (.slice none 0 0) (.slice none 0 0) (.slice none 0 0):=(aQ wr (.slice none 0 0) (.slice none 0 0) (.slice none 0 0) 30).keep ((Below.refl _ _).drew)
     have l7:wr.heap.size<((wr.alloc (.cells #[.slice none 0 0,.slice none 0 0,.slice none 0 0] 30)).drew).heap.size:=by show _<(wr.alloc (.cells #[.slice none 0 0,.slice none 0 0,.slice none 0 0] 30)).heap.size;simp
     have S1:((wr.alloc (.cells #[.slice none 0 0,.slice none 0 0,.slice none 0 0] 30)).drew).cell? ⟨w1.heap.size,0,none⟩=some (.slice a0 g.ins.length d0)/\((wr.alloc (.cells #[.slice none 0 0,.slice none 0 0,.slice none 0 0] 30)).drew).cell? ⟨w1.heap.size,1,none⟩=some (.slice a1 g.wins.length d1)/\((wr.alloc (.cells #[.slice none 0 0,.slice none 0 0,.slice none 0 0] 30)).drew).cell? ⟨w1.heap.size,2,none⟩=some (.slice a2 g.shown.length d2)/\((wr.alloc (.cells #[.slice none 0 0,.slice none 0 0,.slice none 0 0] 30)).drew).cell? ⟨bL,oL+k,none⟩=some (.string ls[k]):=⟨ae b1x hT.lt g0,ae b1x hT.lt g1,ae b1x hT.lt g2,ae b1x (by omega) cl1⟩
     refine hK.out _ _ S1 (fun _=>?_)
     clear hK K
     obtain⟨x1,hx1⟩:∃x1,(wr.alloc (.cells #[.slice none 0 0,.slice none 0 0,.slice none 0 0] 30)).drew=x1:=⟨_,rfl⟩
     rw[hx1]at b1x trx l7 S1 ⊢
     clear hx1
     refine wpAnyH_ready (rs:=[5]) (by kernel_rfl) (by simp) ?_
     refine AllReadyH.cons rfl (fun K hK=>?_) AllReadyH.nil
     rw[if_pos (by rfl)]
     go_simp
     refine(zo ls[k] _ hsz).mono ?_
     rintro e x2 ⟨⟨a,cap,u0,r,rfl,hur,hwd⟩,c1⟩
     have b2x:=b1x.trans (c1.mono b1x.size)
     have S2:(x2).cell? ⟨w1.heap.size,0,none⟩=some (.slice a0 g.ins.length d0)/\(x2).cell? ⟨w1.heap.size,1,none⟩=some (.slice a1 g.wins.length d1)/\(x2).cell? ⟨w1.heap.size,2,none⟩=some (.slice a2 g.shown.length d2)/\(x2).cell? ⟨bL,oL+k,none⟩=some (.string ls[k]):=⟨ae b2x hT.lt g0,ae b2x hT.lt g1,ae b2x hT.lt g2,ae b2x (by omega) cl1⟩
     refine hK.out _ _ S2 (fun _=>?_)
     clear hK K
     refine wpAnyH_ready (rs:=[6]) (by kernel_rfl) (by simp) ?_
     refine AllReadyH.cons rfl (fun K hK=>?_) AllReadyH.nil
     rw[if_pos (by rfl)]
     go_simp
     refine(HDK.out u0 r hur a0 a1 a2 a d0 d1 d2 cap g _ hT.nice (r0.below b2x) (r1.below b2x) (r2.below b2x) hwd).mono ?_
     rintro e x3 ⟨⟨s',g',b0,b1,b2,k0',k1',k2',rfl,hTT,hrs⟩,c2⟩
     have b3x:=b2x.trans (c2.mono b2x.size)
     have S3:(x3).cell? ⟨w1.heap.size,0,none⟩=some (.slice a0 g.ins.length d0)/\(x3).cell? ⟨w1.heap.size,1,none⟩=some (.slice a1 g.wins.length d1)/\(x3).cell? ⟨w1.heap.size,2,none⟩=some (.slice a2 g.shown.length d2)/\(x3).cell? ⟨bL,oL+k,none⟩=some (.string ls[k]):=⟨ae b3x hT.lt g0,ae b3x hT.lt g1,ae b3x hT.lt g2,ae b3x (by omega) cl1⟩
     refine hK.out _ _ S3 (fun _=>?_)
     clear hK K
     refine wpAnyH_take (i:=7) (v:=.tuple #[.agg #[.slice b0 g'.ins.length k0',.slice b1 g'.wins.length k1',.slice b2 g'.shown.length k2'],.string s']) rfl (by kernel_rfl) (by kernel_rfl) (by kernel_rfl) (fun _ _ _ h=>h) (Or.inl ⟨by rfl, ?_⟩) S3 ?_
     ·rintro u ⟨q1,q2,q3,q4⟩
      go_simp
     simp only[Act.put,List.setIfInBounds_toArray]
     refine wpAnyH_take (i:=8) (v:=.agg #[.slice b0 g'.ins.length k0',.slice b1 g'.wins.length k1',.slice b2 g'.shown.length k2']) rfl (by kernel_rfl) (by kernel_rfl) (by kernel_rfl) (fun _ _ _ h=>h) (Or.inl ⟨by rfl, ?_⟩) S3 ?_
     ·rintro u ⟨q1,q2,q3,q4⟩
      go_simp
     simp only[Act.put]
     refine wpAnyH_take (i:=9) (v:=.string s') rfl (by kernel_rfl) (by kernel_rfl) (by kernel_rfl) (fun _ _ _ h=>h) (Or.inl ⟨by rfl, ?_⟩) S3 ?_
     ·rintro u ⟨q1,q2,q3,q4⟩
      go_simp
     simp only[Act.put]
     have c12:=c1.trans (c2.mono c1.size)
     have hM:KZ wr x3 g a0 a1 a2 d0 d1 d2 (fun g' t=>fP g (aZ 32 ls[k]) g' t) wr.heap.size g' b0 b1 b2 k0' k1' k2' s':=Ap (x:=x2) (y:=x3) ⟨u0,r,hur,hTT⟩ hrs b2x (Below.refl _ _) b3x (Nat.le_refl _) (Nat.lt_of_lt_of_le l7 c12.size) (trx.keep c12) (.inl (Nat.lt_of_lt_of_le l7 c1.size))
     clear hTT hrs trx
     obtain⟨hTT,BZ,h7,h8,tr,hrs⟩:=hM
     obtain⟨t0,t1,t2,f0,f1,f2⟩:=id tr
     refine wpAnyH_ready (rs:=[11]) (by kernel_rfl) (by simp) ?_
     refine AllReadyH.cons rfl (fun K hK=>?_) AllReadyH.nil
     rw[if_pos (by rfl)]
     go_simp
     have sp:=jg x3 wr.heap.size (.slice b0 g'.ins.length k0') (.slice b1 g'.wins.length k1') (.slice b2 g'.shown.length k2')
     have tN:=tr.set3 (.slice b0 g'.ins.length k0') (.slice b1 g'.wins.length k1') (.slice b2 g'.shown.length k2')
     have B9:Below wr.heap.size wr ((((x3).setCell ⟨wr.heap.size,0,none⟩ (.slice b0 g'.ins.length k0')).setCell ⟨wr.heap.size,1,none⟩ (.slice b1 g'.wins.length k1')).setCell ⟨wr.heap.size,2,none⟩ (.slice b2 g'.shown.length k2')):=bU BZ h7 (.slice b0 g'.ins.length k0') (.slice b1 g'.wins.length k1') (.slice b2 g'.shown.length k2')
     have hrs9:(g'=g/\b0=a0/\b1=a1/\b2=a2/\k0'=d0/\k1'=d1/\k2'=d2)∨∃lo hi,RowsIn lo hi ((((x3).setCell ⟨wr.heap.size,0,none⟩ (.slice b0 g'.ins.length k0')).setCell ⟨wr.heap.size,1,none⟩ (.slice b1 g'.wins.length k1')).setCell ⟨wr.heap.size,2,none⟩ (.slice b2 g'.shown.length k2')) g' b0 b1 b2/\dM g'/\(g'.ins.length<=k0'/\k0'<=maxLen)/\wr.heap.size<=lo/\hi<=((((x3).setCell ⟨wr.heap.size,0,none⟩ (.slice b0 g'.ins.length k0')).setCell ⟨wr.heap.size,1,none⟩ (.slice b1 g'.wins.length k1')).setCell ⟨wr.heap.size,2,none⟩ (.slice b2 g'.shown.length k2')).heap.size:=by
      rcases hrs with h|⟨lo,hi,m1,m2,m3,m4,m5,m6⟩
      ·exact .inl h
      ·exact .inr ⟨lo,hi,m1.agree (sp.agree (by omega)),m2,m3,m4,Nat.le_trans m5 sp.size⟩
     have l9:wr.heap.size<((((x3).setCell ⟨wr.heap.size,0,none⟩ (.slice b0 g'.ins.length k0')).setCell ⟨wr.heap.size,1,none⟩ (.slice b1 g'.wins.length k1')).setCell ⟨wr.heap.size,2,none⟩ (.slice b2 g'.shown.length k2')).heap.size:=Nat.lt_of_lt_of_le h8 sp.size
     generalize (((x3).setCell ⟨wr.heap.size,0,none⟩ (.slice b0 g'.ins.length k0')).setCell ⟨wr.heap.size,1,none⟩ (.slice b1 g'.wins.length k1')).setCell ⟨wr.heap.size,2,none⟩ (.slice b2 g'.shown.length k2')=x9 at *
     have S9:(x9).cell? ⟨w1.heap.size,0,none⟩=some (.slice a0 g.ins.length d0)/\(x9).cell? ⟨w1.heap.size,1,none⟩=some (.slice a1 g.wins.length d1)/\(x9).cell? ⟨w1.heap.size,2,none⟩=some (.slice a2 g.shown.length d2)/\(x9).cell? ⟨bL,oL+k,none⟩=some (.string ls[k]):=⟨ae B9 hT.lt g0,ae B9 hT.lt g1,ae B9 hT.lt g2,ae B9 (by omega) cl1⟩
     refine hK.out _ _ S9 (fun _=>?_)
     clear hK K
     refine wpAnyH_ready (rs:=[12]) (by kernel_rfl) (by simp) ?_
     refine AllReadyH.cons rfl (fun K hK=>?_) AllReadyH.nil
     rw[if_pos (by rfl)]
     go_simp
     refine hK.out _ _ S9 (fun _=>?_)
     clear hK K
     refine wpAnyH_done (by kernel_rfl) ?_ _
     have ht9:=hT.below B9
     have ne7:¬wr.heap.size=w1.heap.size:=by have:=hT.lt;omega
     have HTS:Hid (∃glo' ghi',jb ((((x9).setCell ⟨w1.heap.size,0,none⟩ (.slice b0 g'.ins.length k0')).setCell ⟨w1.heap.size,1,none⟩ (.slice b1 g'.wins.length k1')).setCell ⟨w1.heap.size,2,none⟩ (.slice b2 g'.shown.length k2')) w1.heap.size glo' ghi' g' b0 b1 b2 k0' k1' k2'):=by
      rcases hrs9 with⟨rfl,rfl,rfl,rfl,rfl,rfl,rfl⟩|⟨lo,hi,m1,m2,m3,m4,m5⟩
      ·exact⟨glo,ghi,ht9.set _ _ _ ht9.rows ht9.nice ht9.glt ht9.box ht9.cap⟩
      ·exact⟨lo,hi,ht9.set _ _ _ m1 m2 m5 (.inl (by have:=hT.lt;omega)) m3⟩
     have HBX:Hid (Below w1.heap.size w1 ((((x9).setCell ⟨w1.heap.size,0,none⟩ (.slice b0 g'.ins.length k0')).setCell ⟨w1.heap.size,1,none⟩ (.slice b1 g'.wins.length k1')).setCell ⟨w1.heap.size,2,none⟩ (.slice b2 g'.shown.length k2'))):=bU (bw.trans (B9.mono hzr)) (Nat.le_refl _) (.slice b0 g'.ins.length k0') (.slice b1 g'.wins.length k1') (.slice b2 g'.shown.length k2')
     have hsl':s'.size<=1000:=by
      obtain⟨x,y,_,hz⟩:=hTT
      rw[<- ak]
      exact(hz.facts hT.nice).2
     have HRT:Hid (dX (ls.take (k+1)) g' (bl (s++s'++⟨#[10]⟩))):=by
      have h:=HST.out _ _ hTT
      have e:bl (s++s'++(⟨#[10]⟩:ByteArray))=bl s++(bl s'++[10]):=by
       unfold bl
       rw[au,au,List.append_assoc]
      rw[Hid,e]
      exact h
     obtain⟨p0,p1,p2,o0,o1,o2⟩:=id ht9.tri
     obtain⟨y0,y1,y2,_,_,_⟩:=id tN
     have hs80:s.size<=80080:=by
      have:=Nat.mul_le_mul_right 1001 (Nat.le_trans hk hn80)
      omega
     clear hTT hrs hrs9 tr tN sp BZ S9 SW S1 S2 S3
     go_wp2_with fail
     obtain⟨glo',ghi',hTS⟩:=HTS.out
     exact⟨⟨k+1,glo',ghi',g',_,_,_,_,_,_,_,by omega,by go_num,rfl,hTS,by simp only[ByteArray.size_append];have e1:(⟨#[10]⟩:ByteArray).size=1:=rfl;omega,HRT,HBX.out⟩,by simp[intOf];omega⟩
  ·obtain rfl:k=ls.length:=by omega
   have hRT:=HT.out
   rw[List.take_length]at hRT
   have HE:Hid (Jd t (.returned (.string s))):=⟨_,rfl,.inr ⟨HNL.out,g,by rw[HLS.out];exact hRT⟩⟩
   have BW:Below w.heap.size w wr:=b1.trans (bw.mono b1.size)
   clear hRT HT
   go_wp2_with fail
   go_ret
   exact⟨HE.out,BW⟩
end Go.Proofs.YtpfhegengmlkmabGreatDoor
