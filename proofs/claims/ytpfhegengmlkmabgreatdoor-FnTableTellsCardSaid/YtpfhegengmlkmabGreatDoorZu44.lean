/- Texts of this claim. -/
import Derived.Test.YtpfhegengmlkmabGreatDoorZu43
namespace Go.Proofs.YtpfhegengmlkmabGreatDoor
set_option maxRecDepth 100000
def IU (m:List (ByteArray×Int)):List (List UInt8):=if m=[]then[[45]]else m.map dO
theorem Kv (m:List (ByteArray×Int)):IU m≠[]:=by
 unfold IU
 split
 ·simp
 ·simpa
theorem rP (m:List (ByteArray×Int)):bl (dI m)=Lib.join (IU m) [32]:=by
 unfold dI IU
 split
 ·simp[bl,Lib.join_one]
 ·simp[bl,iq]
theorem ML {c:UInt8}(h:NB (c.toNat:Int)):c≠32/\c≠10:=by
 unfold NB at h
 constructor
 ·rintro rfl;revert h;decide
 ·rintro rfl;revert h;decide
theorem MR {c:UInt8}(h:DG c):c≠32/\c≠10:=by
 unfold DG at h
 constructor
 ·rintro rfl;revert h;decide
 ·rintro rfl;revert h;decide
theorem wI (u:Nat):∀x∈Lib.decDigits u,x≠32/\x≠10:=fun x hx=>by
 rcases Nat.eq_zero_or_pos u with rfl|hu
 ·rw[aC (by omega)]at hx
  have:x=48:=by simpa using hx
  subst this
  decide
 ·exact MR ((gI u u (Nat.le_refl _) hu).2.2.1 x hx)
theorem yH (n:Int):∀x∈Lib.itoa n,x≠32/\x≠10:=fun x hx=>by
 unfold Lib.itoa at hx
 split at hx
 ·rcases List.mem_cons.1 hx with rfl|h
  ·decide
  ·exact wI _ x h
 ·exact wI _ x hx
theorem sJ {s:ByteArray}(h:kV s):∀x∈bl s,x≠32/\x≠10:=fun x hx=>ML (Kr h.2.2 x hx)
theorem IA {m:ByteArray×Int}(h:iZ m):∀x∈dO m,x≠32/\x≠10:=fun x hx=>by
 unfold dO at hx
 rcases List.mem_append.1 hx with h1|h1
 ·exact sJ h.1 x h1
 ·rcases List.mem_cons.1 h1 with rfl|h2
  ·decide
  ·exact wI _ x h2
theorem Ci {m:List (ByteArray×Int)}(h:ah m):∀u∈IU m,∀x∈u,x≠32/\x≠10:=fun u hu x hx=>by
 unfold IU at hu
 split at hu
 ·obtain rfl:u=[45]:=by simpa using hu
  obtain rfl:x=45:=by simpa using hx
  decide
 ·obtain⟨p,hp,rfl⟩:=List.mem_map.1 hu
  obtain⟨j,hj,rfl⟩:=List.mem_iff_getElem.1 hp
  exact IA (h.2.1 j hj) x hx
theorem oP {ws:List (List UInt8)}(h:∀u∈ws,∀x∈u,x≠32/\x≠10):∀x∈Lib.join ws [32],x≠10:=by
 cases ws with
 |nil=>intro x hx;simp[Lib.join_nil]at hx
 |cons y r=>
  intro x hx
  rw[Lib.join_cons]at hx
  rcases List.mem_append.1 hx with h1|h1
  ·exact(h y (List.mem_cons_self ..) x h1).2
  ·unfold Lib.joinTail at h1
   obtain⟨l,hl,hxl⟩:=List.mem_flatten.1 h1
   obtain⟨u,hu,rfl⟩:=List.mem_map.1 hl
   rcases List.mem_append.1 hxl with h2|h2
   ·obtain rfl:x=32:=by simpa using h2
    decide
   ·exact(h u (List.mem_cons_of_mem _ hu) x h2).2
def oK (l:List UInt8):ByteArray:=⟨l.toArray⟩
theorem iI (l:List UInt8):bl (oK l)=l:=by simp[bl,oK]
theorem rf {ws:List (List UInt8)}(h0:ws≠[])(h:∀u∈ws,∀x∈u,x≠32/\x≠10){t:ByteArray}(ht:bl t=Lib.join ws [32]):aZ 32 t=ws.map oK:=by
 have hs:aj 32 (bl t)=ws:=by
  rw[ht]
  exact qo ws h0 fun w hw hm=>(h w hw 32 hm).1 rfl
 unfold aZ
 rw[hs]
 rfl
theorem Ep (ws:List (List UInt8)):(ws.map oK).map bl=ws:=by
 rw[List.map_map]
 conv=>rhs;rw[<- List.map_id ws]
 exact List.map_congr_left fun a _=>iI a
def pK (ins:List ByteArray)(f:fQ):Prop:=0<=f.1/\f.1<(ins.length:Int)/\ah f.2.2/\0<=f.2.1/\f.2.1<=999
def yj (ins:List ByteArray)(i:Int):ByteArray:=ins.getD i.toNat ⟨#[]⟩
def Ac (ins:List ByteArray)(f:fQ):List (List UInt8):=mV::bl (yj ins f.1)::Lib.itoa f.2.1::IU f.2.2
def jI (ins:List ByteArray)(f:fQ):List UInt8:=Lib.join (Ac ins f) [32]
def lD (ins:List ByteArray):List UInt8:=Lib.join (mF::ins.map bl) [32]
theorem vH {ins:List ByteArray}{i:Int}(h0:0<=i)(h1:i<(ins.length:Int)):yj ins i=ins[i.toNat]'(by omega):=by
 unfold yj
 rw[List.getD_eq_getElem?_getD,List.getElem?_eq_getElem (by omega),Option.getD_some]
theorem rY {ins:List ByteArray}{f:fQ}(hI:fG ins)(hf:pK ins f):∀u∈Ac ins f,∀x∈u,x≠32/\x≠10:=fun u hu x hx=>by
 unfold Ac at hu
 simp only[List.mem_cons]at hu
 rcases hu with rfl|rfl|rfl|hu
 ·revert x;decide
 ·rw[vH hf.1 hf.2.1]at hx
  exact sJ (hI.2.2 _ (by have:=hf.1;have:=hf.2.1;omega)).1 x hx
 ·exact yH _ x hx
 ·exact Ci hf.2.2.1 u hu x hx
theorem sG {ins:List ByteArray}(hI:fG ins):∀u∈mF::ins.map bl,∀x∈u,x≠32/\x≠10:=fun u hu x hx=>by
 rcases List.mem_cons.1 hu with rfl|hu
 ·revert x;decide
 ·obtain⟨s,hs,rfl⟩:=List.mem_map.1 hu
  obtain⟨j,hj,rfl⟩:=List.mem_iff_getElem.1 hs
  exact sJ (hI.2.2 j hj).1 x hx
theorem KX {m:List (ByteArray×Int)}(h:ah m):kF ((IU m).map oK) m:=by
 refine⟨by simpa using Kv m, ?_⟩
 rw[Ep]
 unfold IU
 split
 ·rename_i e
  exact .inl ⟨rfl,e⟩
 ·refine .inr ⟨yR fun p hp=>?_,h⟩
  obtain⟨j,hj,rfl⟩:=List.mem_iff_getElem.1 hp
  exact Ll (h.2.1 j hj) (Jj (h.2.1 j hj))
theorem Ja {ins:List ByteArray}(hI:fG ins){k:Nat}(hk:k<ins.length):Lib.idxOfS ins ins[k]=(k:Int):=Aq hk rfl fun q hq _=>(hI.2.2 k hk).2 q hq
structure CQ (t:List UInt8) (b:Bool):Prop where
 free:∀x∈t,x≠10
 pre:di.isPrefixOf t=b
theorem EZ {m:List (ByteArray×Int)}(h:ah m):∀x∈bl (dI m),x≠10:=by
 rw[rP]
 exact oP (Ci h)
theorem Gu (l:List Int):∀x∈dY l,x≠10:=oP fun u hu=>by
 obtain⟨n,_,rfl⟩:=List.mem_map.1 hu
 exact yH n
theorem GR:CQ DW false:=⟨by decide,by decide⟩
theorem Jf:CQ MQ false:=⟨by decide,by decide⟩
theorem EW (c:Int):CQ (pJ c) false:=by
 unfold pJ
 split
 ·exact⟨by decide,by decide⟩
 ·split
  ·exact⟨by decide,by decide⟩
  ·exact⟨by decide,by decide⟩
theorem Bl {sv:List Int}{ss:List (ByteArray×Int)}(h:ah ss):CQ (di++(dY sv++(KF++bl (dI ss)))) true:=by
 refine⟨fun x hx=>?_, ?_⟩
 ·rcases List.mem_append.1 hx with h1|h1
  ·exact(show ∀x∈di,x≠10 by decide) x h1
  ·rcases List.mem_append.1 h1 with h2|h2
   ·exact Gu _ x h2
   ·rcases List.mem_append.1 h2 with h3|h3
    ·exact(show ∀x∈KF,x≠10 by decide) x h3
    ·exact EZ h x h3
 ·rw[List.isPrefixOf_iff_prefix]
  exact List.prefix_append _ _
theorem mi.ins {g g1:aB}{i x c:Int}{m ss:List (ByteArray×Int)}{sv:List Int}(h:mi g i x m g1 sv ss c)(hc:c≠2):g1.ins=g.ins:=by
 rcases h with⟨_,_,_,_,rfl⟩|⟨_,r,d,_,⟨_,_,_,_,rfl⟩|⟨_,rfl,_⟩|⟨_,sh,_,rfl⟩⟩
 ·exact absurd rfl hc
 ·exact absurd rfl hc
 ·rfl
 ·rfl
theorem II {ins:List ByteArray}{f:fQ}{g g1:aB}{sv:List Int}{ss:List (ByteArray×Int)}{c:Int}(hI:fG ins)(hf:pK ins f)(hg:g.ins=ins)(hp:mi g f.1 f.2.1 f.2.2 g1 sv ss c) :
  ∃t,fP g (aZ 32 (oK (jI ins f))) (if c=2 then g else g1) t/\CQ t (decide (c=1)):=by
 have hcut:aZ 32 (oK (jI ins f))=(Ac ins f).map oK:=rf (by simp[Ac]) (rY hI hf) (iI _)
 obtain⟨k,hk⟩:∃k:Nat,f.1=(k:Int):=⟨f.1.toNat,by have:=hf.1;omega⟩
 have hkl:k<ins.length:=by have:=hf.2.1;omega
 have hnm:yj ins f.1=ins[k]:=by
  rw[vH hf.1 hf.2.1]
  congr 1
  omega
 have hmk:oK (bl (yj ins f.1))=ins[k]:=by rw[hnm];exact gW (iI _)
 have hgp:jL (oK (bl (yj ins f.1))::oK (Lib.itoa f.2.1)::(IU f.2.2).map oK) ins[k] f.2.1 f.2.2:=by
  rw[hmk]
  exact⟨_,_,rfl,⟨iI _,by have:=hf.2.2.2.1;omega,by have:=hf.2.2.2.2;omega⟩,KX hf.2.2.1⟩
 have hidx:Lib.idxOfS g.ins ins[k]=f.1:=by rw[hg,Ja hI hkl,hk]
 have key:∀g' t,wF g g1 sv ss c g' t->fP g (aZ 32 (oK (jI ins f))) g' t:=fun g' t h3=>by
  rw[hcut]
  refine⟨oK mV,oK (bl (yj ins f.1))::oK (Lib.itoa f.2.1)::(IU f.2.2).map oK,rfl, ?_⟩
  rw[iI]
  exact oN (.inl ⟨_,_,_,hgp,.inr ⟨by rw[hidx];exact hf.1,g1,sv,ss,c,by rw[hidx];exact hp,h3⟩⟩)
 by_cases h2:c=2
 ·refine⟨DW, ?_, ?_⟩
  ·rw[if_pos h2];exact key _ _ (.inl ⟨h2,rfl,rfl⟩)
  ·rw[h2];exact GR
 ·rw[if_neg h2]
  by_cases h1:c=1
  ·refine⟨_,key _ _ (.inr (.inl ⟨h1,rfl,_,oO hp.nice.2.2,rfl⟩)), ?_⟩
   rw[h1]
   exact Bl hp.nice.2.2
  ·refine⟨_,key _ _ (.inr (.inr ⟨h2,h1,rfl,rfl⟩)), ?_⟩
   have:decide (c=1)=false:=by simpa using h1
   rw[this]
   exact EW c
def rH (ts:List (List UInt8)):List UInt8:=(ts.map (·++[10])).flatten
def tu (ts:List (List UInt8)):Nat:=(ts.filter fun t=>di.isPrefixOf t).length
theorem DU (ts:List (List UInt8))(t:List UInt8):rH (ts++[t])=rH ts++(t++[10]):=by simp[rH]
theorem Dh (ts:List (List UInt8))(t:List UInt8):tu (ts++[t])=tu ts+(if di.isPrefixOf t then 1 else 0):=by
 unfold tu
 rw[List.filter_append,List.length_append]
 congr 1
 by_cases h:di.isPrefixOf t=true
 ·simp[h]
 ·simp[h]
theorem FK {ws:List (List UInt8)}(h:∃u∈ws,u≠[]):Lib.join ws [32]≠[]:=by
 cases ws with
 |nil=>obtain⟨u,hu,_⟩:=h;simp at hu
 |cons y r=>
  rw[Lib.join_cons]
  intro e
  obtain⟨e1,e2⟩:=List.append_eq_nil_iff.1 e
  obtain⟨u,hu,hne⟩:=h
  rcases List.mem_cons.1 hu with rfl|hu
  ·exact hne e1
  ·unfold Lib.joinTail at e2
   have:=List.flatten_eq_nil_iff.1 e2 ([32]++u) (List.mem_map_of_mem hu)
   simp at this
theorem Jb {ins:List ByteArray}(hI:fG ins){fs:List fQ}{g:aB}{sh:List ry}{cs:List Int}(h:gJ (bJ ins) fs g sh cs)(hf:∀f∈fs,pK ins f) :
  g.ins=ins/\∃ts,dX (oK (lD ins)::fs.map fun f=>oK (jI ins f)) g (rH ts)/\(∀t∈ts,∀x∈t,x≠10)/\tu ts=sh.length:=by
 induction h with
 |nil=>
  refine⟨rfl,[MQ], ?_,fun t ht=>?_,by decide⟩
  ·have hcut:aZ 32 (oK (lD ins))=(mF::ins.map bl).map oK:=rf (by simp) (sG hI) (iI _)
   have hmm:(ins.map bl).map oK=ins:=by
    rw[List.map_map]
    conv=>rhs;rw[<- List.map_id ins]
    exact List.map_congr_left fun a _=>gW (iI _)
   have ht:fP fF (aZ 32 (oK (lD ins))) (bJ ins) MQ:=by
    rw[hcut,List.map_cons,hmm]
    refine⟨oK mF,ins,rfl, ?_⟩
    rw[iI]
    exact lF (.inr (.inl ⟨fun e=>by have:=hI.1;rw[e]at this;simp at this,hI,rfl,rfl⟩))
   have:=dX.line (ls:=[]) .nil (by rw[iI];exact FK ⟨mF,List.mem_cons_self ..,by decide⟩) ht
   simpa[rH]using this
  ·obtain rfl:t=MQ:=by simpa using ht
   exact Jf.free
 |snoc h hp ih=>
  rename_i fs g g1 sh cs f sv ss c
  obtain⟨i0,ts,i1,i2,i3⟩:=ih fun f hf'=>hf f (List.mem_append_left _ hf')
  obtain⟨t,ht,hL⟩:=II hI (hf f (by simp)) i0 hp
  refine⟨?_,ts++[t], ?_,fun u hu=>?_, ?_⟩
  ·by_cases h2:c=2
   ·rw[if_pos h2];exact i0
   ·rw[if_neg h2,hp.ins h2];exact i0
  ·have:=dX.line i1 (l:=oK (jI ins f)) (by rw[iI];exact FK ⟨mV,List.mem_cons_self ..,by decide⟩) ht
   rw[DU,List.map_append,<- List.cons_append]
   exact this
  ·rcases List.mem_append.1 hu with h1|h1
   ·exact i2 u h1
   ·obtain rfl:u=t:=by simpa using h1
    exact hL.free
  ·rw[Dh,i3,hL.pre]
   by_cases h1:c=1
   ·simp[h1]
   ·simp[h1]
def ik:Bool->List UInt8->Nat
 |_,[]=>0
 |b,x::r=>(if b && di.isPrefixOf (x::r)then 1 else 0)+ik (x==10) r
theorem GM {l:List UInt8}(h:l.length<6):di.isPrefixOf l=false:=by
 cases hb:di.isPrefixOf l with
 |false=>rfl
 |true=>
  have:=(List.isPrefixOf_iff_prefix.1 hb).length_le
  have e:di.length=6:=rfl
  omega
theorem xx:∀(l:List UInt8) (b:Bool),l.length<6->ik b l=0
 |[],_,_=>rfl
 |x::r,b,h=>by
  unfold ik
  rw[GM h,xx r _ (by simp at h;omega)]
  simp
theorem IV (t r:List UInt8):di.isPrefixOf (t++10::r)=di.isPrefixOf t:=by
 have gen:∀(p t:List UInt8),(∀x∈p,x≠10)->p.isPrefixOf (t++10::r)=p.isPrefixOf t:=by
  intro p
  induction p with
  |nil=>intro t _;simp
  |cons y p ih=>
   intro t hp
   cases t with
   |nil=>
    have:y≠10:=hp y (List.mem_cons_self ..)
    simp[List.isPrefixOf,this]
   |cons z t=>
    simp only[List.cons_append,List.isPrefixOf]
    rw[ih t fun x hx=>hp x (List.mem_cons_of_mem _ hx)]
 exact gen di t (by decide)
theorem Dt:∀(t r:List UInt8),(∀x∈t,x≠10)->ik false (t++10::r)=ik true r
 |[],r,_=>by simp[ik]
 |x::t,r,h=>by
  have hx:(x==10)=false:=by simpa using h x (List.mem_cons_self ..)
  rw[List.cons_append,ik,hx,Dt t r fun y hy=>h y (List.mem_cons_of_mem _ hy)]
  simp
theorem Ht {t r:List UInt8}(ht:∀x∈t,x≠10):ik true (t++10::r)=(if di.isPrefixOf t then 1 else 0)+ik true r:=by
 cases t with
 |nil=>simp[ik,di,List.isPrefixOf]
 |cons x t=>
  have hx:(x==10)=false:=by simpa using ht x (List.mem_cons_self ..)
  rw[List.cons_append,ik,hx,Dt t r fun y hy=>ht y (List.mem_cons_of_mem _ hy),Bool.true_and,<- List.cons_append,IV]
theorem zq:∀(ts:List (List UInt8)),(∀t∈ts,∀x∈t,x≠10)->ik true (rH ts)=tu ts
 |[],_=>rfl
 |t::ts,h=>by
  have ih:=zq ts fun u hu=>h u (List.mem_cons_of_mem _ hu)
  have e:rH (t::ts)=t++10::rH ts:=by simp[rH]
  rw[e,Ht (h t (List.mem_cons_self ..)),ih]
  unfold tu
  by_cases hp:di.isPrefixOf t=true
  ·simp[hp];omega
  ·simp[hp]
theorem uG:∀(ls:List (List UInt8)) (a:List UInt8),(10:UInt8)∉a->(∀l∈ls,(10:UInt8)∉l)->aj 10 (a++(ls.map (10::·)).flatten)=a::ls
 |[],a,ha,_=>by simpa using dV ha
 |l::ls,a,ha,h=>by
  rw[List.map_cons,List.flatten_cons,List.cons_append,dK ha,uG ls l (h l (List.mem_cons_self ..)) fun u hu=>h u (List.mem_cons_of_mem _ hu)]
def textOf (ins:List ByteArray)(fs:List fQ):List UInt8:=lD ins++(fs.map fun f=>10::jI ins f).flatten
theorem uK (ins:List ByteArray)(fs:List fQ)(f:fQ):textOf ins (fs++[f])=textOf ins fs++(10::jI ins f):=by simp[textOf]
theorem AZ {ins:List ByteArray}{fs:List fQ}(hI:fG ins)(hf:∀f∈fs,pK ins f){t:ByteArray}(ht:bl t=textOf ins fs):aZ 10 t=oK (lD ins)::fs.map fun f=>oK (jI ins f):=by
 have h:=uG (fs.map (jI ins)) (lD ins) (fun h=>oP (sG hI) 10 h rfl) (fun l hl h=>by
  obtain⟨f,hf',rfl⟩:=List.mem_map.1 hl
  exact oP (rY hI (hf f hf')) 10 h rfl)
 unfold aZ
 rw[ht]
 unfold textOf
 rw[List.map_map]at h
 have e:(fs.map fun f=>10::jI ins f)=fs.map ((10::·) ∘ jI ins):=rfl
 rw[e,h]
 simp[oK]
theorem Gm {ins:List ByteArray}{fs:List fQ}{g:aB}{sh:List ry}{cs:List Int}{t s:ByteArray}(hI:fG ins)(hf:∀f∈fs,pK ins f)(ht:bl t=textOf ins fs)(hs:lT t s)(h3:t.size<=3000)(hl:fs.length<=60)
  (hp:gJ (bJ ins) fs g sh cs):ik true (bl s)=sh.length:=by
 have hc:=AZ hI hf ht
 obtain⟨_,ts,h1,h2,h4⟩:=Jb hI hp hf
 rcases hs with⟨hL|hL,_⟩|⟨_,g',hr⟩
 ·omega
 ·rw[hc]at hL
  simp at hL
  omega
 ·rw[hc]at hr
  rw[(hr.one h1).2,zq ts h2,h4]
end Go.Proofs.YtpfhegengmlkmabGreatDoor
namespace Go.Proofs.YtpfhegengmlkmabGreatDoor
open Go.RowKit Go.BigFrame
set_option maxRecDepth 100000
theorem eu.at {w:World}{B:Nat}{v:Value}{L:List eY}(h:eu w B v L){k:Nat}(hk:k<L.length) :
  ∃g cap,v=.slice (some ⟨g,0,none⟩) L.length cap/\B<=g/\g<w.heap.size/\w.cell? ⟨g,k*3,none⟩=some (.int .i64 L[k].1)/\w.cell? ⟨g,k*3+1,none⟩=some (.int .i64 L[k].2.1.1)/\w.cell? ⟨g,k*3+2,none⟩=some (.slice L[k].2.2.1 L[k].2.1.2.length L[k].2.2.2):=by
 rcases h.1.2 with⟨rfl,h0⟩|⟨g,cap,cur,rfl,hB,hh,hn,_⟩
 ·omega
 ·have h2:=tX L k hk
  have c0:=(World.ownsRow.cellAt h.1 (k*3) (by omega)).trans h2.1
  have c1:=(World.ownsRow.cellAt h.1 (k*3+1) (by omega)).trans h2.2.1
  have c2:=(World.ownsRow.cellAt h.1 (k*3+2) (by omega)).trans h2.2.2
  exact⟨g,cap,rfl,hB,(Array.getElem?_eq_some_iff.1 hh).1,c0,c1,c2⟩
structure xe (w:World) (B2 B:Nat) (v:Value) (L:List eY):Prop where
 own:w.ownsRow B2 36 3 v L.length (iD L)
 sl:∀p∈L,qV w B p.2.2.1 p.2.2.2 p.2.1.2/\p.2.1.2.length<=40/\∀y∈p.2.1.2,y.1.size<=2000
theorem Gx (w:World)(B2 B:Nat):xe w B2 B (.slice none 0 0) []:=⟨World.ownsRow_nil _ _ _ _,by simp⟩
theorem xe.keep {w w':World}{B2 B:Nat}{v:Value}{L:List eY}(h:xe w B2 B v L)(hb:Below w.heap.size w w'):xe w' B2 B v L:=⟨gV h.own hb,fun p hp=>⟨(h.sl p hp).1.keep hb,(h.sl p hp).2⟩⟩
theorem xe.snoc {w w':World}{B2 B:Nat}{v v':Value}{L:List eY}{p:eY}(h:xe w B2 B v L)(hp:qV w B p.2.2.1 p.2.2.2 p.2.1.2/\p.2.1.2.length<=40/\∀y∈p.2.1.2,y.1.size<=2000)
  (h':w'.ownsRow B2 36 3 v' (L.length+1) (iD L++[.int .i64 p.1,.int .i64 p.2.1.1,.slice p.2.2.1 p.2.1.2.length p.2.2.2])) (hgr:w.grownBy w' v.ownBlock):xe w' B2 B v' (L++[p]):=by
 refine⟨?_,fun q hq=>?_⟩
 ·rw[lq,List.length_append]
  exact h'
 ·rcases List.mem_append.1 hq with hq|hq
  ·exact⟨(h.sl q hq).1.grown h.own (by decide) hgr,(h.sl q hq).2⟩
  ·obtain rfl:q=p:=by simpa using hq
   exact⟨hp.1.grown h.own (by decide) hgr,hp.2⟩
theorem xe.gath {w:World}{B2 B:Nat}{v:Value}{L:List eY}(h:xe w B2 B v L)(hB:B<=B2):eu w B v L:=⟨xB h.own hB,h.sl⟩
def kJ (n:Nat):List UInt8:=[UInt8.ofNat (48+n / 100),UInt8.ofNat (48+n / 10 % 10),UInt8.ofNat (48+n % 10)]
theorem Nw (u:World)(a b c:Nat)(ha:a<256)(hb:b<256)(hc:c<256) :
  (convert 22 9 (.slice (some ⟨u.heap.size,0,none⟩) 3 3)).run Tryz.prog (u.alloc (.cells #[.int .u8 (a:Int),.int .u8 (b:Int),.int .u8 (c:Int)] 5))=.ok (.string ⟨#[UInt8.ofNat a,UInt8.ofNat b,UInt8.ofNat c]⟩) (u.alloc (.cells #[.int .u8 (a:Int),.int .u8 (b:Int),.int .u8 (c:Int)] 5)):=by
 have h:=run_convert_bytes_back (P:=Tryz.prog) (u.alloc (.cells #[.int .u8 (a:Int),.int .u8 (b:Int),.int .u8 (c:Int)] 5)) 22 9 5 ⟨u.heap.size,0,none⟩ 3 [UInt8.ofNat a,UInt8.ofNat b,UInt8.ofNat c] Tryz.underlying22 Tryz.underlying5 Tryz.underlying9 (fun j hj=>by
  have hj':j<3:=by simpa using hj
  rcases(by omega:j=0∨j=1∨j=2)with rfl|rfl|rfl
  ·simp[go_sem,Addr.add]
   omega
  ·simp[go_sem,Addr.add]
   omega
  ·simp[go_sem,Addr.add]
   omega)
 simpa using h
theorem Jp {a b:Nat}(h:a<10)(e:UInt8.ofNat (48+a)=UInt8.ofNat (48+b))(h2:b<10):a=b:=by
 have:=congrArg UInt8.toNat e
 rw[UInt8.toNat_ofNat',UInt8.toNat_ofNat']at this
 omega
def Strip (n j:Nat):Prop:=j<=2/\(1<=j->n<100)/\(2<=j->n<10)
theorem GY {n:Nat}(hn:n<1000){j:Nat}(h:Strip n j)(hs:j=2∨(kJ n).getD j 0≠48):(kJ n).drop j=Lib.decDigits n:=by
 obtain⟨h0,h1,h2⟩:=h
 have z:∀{b:Nat},b<10->UInt8.ofNat (48+b)=48->b=0:=fun hb e=>Jp hb (b:=0) e (by omega)
 unfold kJ at hs ⊢
 rcases(by omega:j=0∨j=1∨j=2)with rfl|rfl|rfl
 ·have hne:n / 100≠0:=fun e=>by
   rcases hs with hs|hs
   ·omega
   ·exact hs (by simp[e])
  rw[dD (u:=n) (by omega),dD (u:=n / 10) (by omega),aC (u:=n / 10 / 10) (by omega)]
  have e1:n / 10 / 10=n / 100:=by omega
  rw[e1]
  rfl
 ·have hl:=h1 (by omega)
  have hne:n / 10 % 10≠0:=fun e=>by
   rcases hs with hs|hs
   ·omega
   ·exact hs (by simp[e])
  rw[dD (u:=n) (by omega),aC (u:=n / 10) (by omega)]
  have e1:n / 10 % 10=n / 10:=by omega
  rw[e1]
  rfl
 ·have hl:=h2 (by omega)
  rw[aC (u:=n) (by omega)]
  have e1:n % 10=n:=by omega
  rw[e1]
  rfl
theorem wH {n:Nat}(hn:n<1000){j:Nat}(h:Strip n j)(hj:j<2)(hz:(kJ n).getD j 0=48):Strip n (j+1):=by
 obtain⟨h0,h1,h2⟩:=h
 have z:∀{b:Nat},b<10->UInt8.ofNat (48+b)=48->b=0:=fun hb e=>Jp hb (b:=0) e (by omega)
 unfold kJ at hz
 rcases(by omega:j=0∨j=1)with rfl|rfl
 ·have:=z (b:=n / 100) (by omega) (by simpa using hz)
  exact⟨by omega,fun _=>by omega,fun h=>by omega⟩
 ·have:=z (b:=n / 10 % 10) (by omega) (by simpa using hz)
  have:=h1 (by omega)
  exact⟨by omega,fun _=>by omega,fun _=>by omega⟩
theorem Dv (ins:List ByteArray)(f:fQ):jI ins f=mV++([32]++(bl (yj ins f.1)++([32]++(Lib.itoa f.2.1++([32]++bl (dI f.2.2)))))):=by
 unfold jI Ac
 rw[rP]
 cases h:IU f.2.2 with
 |nil=>exact absurd h (Kv _)
 |cons y r=>
  rw[Lib.join_cons,Lib.join_cons]
  simp[Lib.joinTail]
theorem Et {ins:List ByteArray}{k:Nat}(hk:k<ins.length):lD (ins.take (k+1))=lD (ins.take k)++([32]++bl ins[k]):=by
 unfold lD
 rw[List.take_succ_eq_append_getElem hk,List.map_append,List.map_singleton,<- List.cons_append,qE _ _ _ (by simp)]
end Go.Proofs.YtpfhegengmlkmabGreatDoor
