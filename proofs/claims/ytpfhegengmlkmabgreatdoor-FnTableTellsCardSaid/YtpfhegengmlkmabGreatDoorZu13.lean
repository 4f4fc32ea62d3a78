/- Texts of this claim. -/
import Derived.Test.YtpfhegengmlkmabGreatDoorZu8
import Derived.Test.YtpfhegengmlkmabGreatDoorZu12
namespace Go.Proofs.YtpfhegengmlkmabGreatDoor
open Go.RowKit Go.BigFrame
def fG (l:List ByteArray):Prop:=1<=l.length/\l.length<=6/\∀i,(h:i<l.length)->kV l[i]/\∀k,(hk:k<i)->l[k]≠l[i]
def yL (l:List ByteArray)(n:Nat):Prop:=∀i,(h:i<l.length)->i<n->kV l[i]/\∀k,(hk:k<i)->l[k]≠l[i]
theorem xX {l:List ByteArray}{n:Nat}(h:yL l n)(hn:n<l.length)(h1:kV l[n])(h2:∀k,(hk:k<n)->l[k]≠l[n]):yL l (n+1):=fun i hi hlt=>by
 by_cases e:i=n
 ·subst e;exact⟨h1,h2⟩
 ·exact h i hi (by omega)
theorem dQ.take {w:World}{b o:Nat}{l:List ByteArray}(h:dQ w (some ⟨b,o,none⟩) l)(k:Nat):dQ w (some ⟨b,o,none⟩) (l.take k):=fun j hj=>by
 rw[List.length_take]at hj
 obtain⟨b',o',e,h1,h2⟩:=h j (by omega)
 exact⟨b',o',e,h1,by rw[List.getElem_take];exact h2⟩
set_option maxHeartbeats 800000 in
theorem zy (a:Option Addr)(cap:Nat)(l:List ByteArray)(w:World)(hl:l.length<=1048576)(hc:l.length<=cap)(hc2:cap<=maxLen)(hr:dQ w a l)(hs:∀j,(h:j<l.length)->l[j].size<=maxLen) :
  Calls Tryz.prog 46 #[.slice a l.length cap] w fun e w'=>rU (fG l) e/\w'=w:=by
 unfold maxLen at hc2
 by_cases h1:l.length<1
 ·go_enter Tryz.func46,Tryz.ntmps46
  go_wp2_with fail
  go_ret
  exact⟨ai (fun h=>by have:=h.1;omega),rfl⟩
 by_cases h6:6<l.length
 ·go_enter Tryz.func46,Tryz.ntmps46
  go_wp2_with fail
  go_ret
  exact⟨ai (fun h=>by have:=h.2.1;omega),rfl⟩
 go_enter Tryz.func46,Tryz.ntmps46
 go_wp2_with fail
 go_loopw [15] (fun i wr=>∃k:Nat,k<=l.length/\i=.int .i64 k/\Hid (yL l k)/\wr=w) (fun i _=>l.length-(intOf i).toNat)
 case atStart=>exact⟨0,Nat.zero_le _,rfl,fun _ _ h=>absurd h (Nat.not_lt_zero _),rfl⟩
 case round=>
  obtain⟨k,hk,rfl,HI,rfl⟩:=hrel
  by_cases hlt:k<l.length
  ·obtain⟨b,o,rfl,hblt,c0⟩:=hr k hlt
   have k0:(0:Int)<=(k:Int):=by omega
   have k1:(k:Int)<(l.length:Int):=by omega
   have HS:=hs k hlt
   have HT:Hid (∀u:World,u=wr->Calls Tryz.prog 77 #[.slice (some ⟨b,o,none⟩) k cap,.string l[k]] u fun e w'=>e=.returned (.bool (iW (l.take k) l[k]))/\w'=u):=fun u hu=>by
    have h:=AA (some ⟨b,o,none⟩) cap (l.take k) l[k] u (by rw[List.length_take];omega) (hu ▸ hr.take k)
    rwa [List.length_take,Nat.min_eq_left (by omega)]at h
   go_wp2_with fail
   refine(vI l[k] _ HS).mono ?_
   rintro e w1 ⟨⟨r,rfl,hr1⟩,rfl⟩
   have HR:Hid (r=true↔kV l[k]):=hr1
   clear hr1
   cases r with
   |false=>
    have HN:Hid (¬fG l):=fun h=>by have h3:=(h.2.2 k hlt).1;have:=HR.out.2 h3;simp at this
    go_wp2_with fail
    go_ret
    exact⟨ai HN.out,rfl⟩
   |true=>
    have HP:Hid (kV l[k]):=HR.out.1 rfl
    go_wp2_with fail
    refine(HT.out _ rfl).mono ?_
    rintro e w1 ⟨rfl,rfl⟩
    cases hq:iW (l.take k) l[k]with
    |false=>
     have HST:Hid (yL l (k+1)):=xX HI.out hlt HP.out (fun j hj he=>by
      have:=(oH (names:=l.take k) (s:=l[k])).2 ⟨j,by rw[List.length_take];omega,by rw[List.getElem_take];exact he⟩
      rw[hq]at this
      cases this)
     go_wp2_with fail
     exact⟨⟨k+1,by omega,by go_num,HST,by trivial⟩,by simp[intOf];omega⟩
    |true=>
     have HN:Hid (¬fG l):=fun h=>by
      obtain⟨j,hj,he⟩:=oH.1 hq
      rw[List.length_take]at hj
      rw[List.getElem_take]at he
      exact(h.2.2 k hlt).2 j (by omega) he
     go_wp2_with fail
     go_ret
     exact⟨ai HN.out,rfl⟩
  ·have HF:Hid (fG l):=⟨by omega,by omega,fun i hi=>HI.out i hi (by omega)⟩
   go_wp2_with fail
   go_ret
   exact⟨dE HF.out,rfl⟩
def kW (w:World)(B:Nat)(v:Value)(l:List UInt8):Prop:=w.ownsRow B 5 1 v l.length (l.map fun x=>.int .u8 (x.toNat:Int))
theorem Eh (w:World)(B:Nat):kW w B (.slice none 0 0) []:=World.ownsRow_nil _ _ _ _
theorem kW.but {w w':World}{R B:Nat}{v:Value}{l:List UInt8}(h:kW w B v l)(hb:But R w w')(hR:R<B):kW w' B v l:=by
 obtain⟨hl,h|⟨g,cap,cur,hv,hgB,hh,r⟩⟩:=h
 ·exact⟨hl,.inl h⟩
 ·exact⟨hl,.inr ⟨g,cap,cur,hv,hgB,(hb.block g (Array.getElem?_eq_some_iff.1 hh).1 (by omega)).trans hh,r⟩⟩
theorem kW.keep {w w':World}{B:Nat}{v:Value}{l:List UInt8}(h:kW w B v l)(hb:Below w.heap.size w w'):kW w' B v l:=by
 obtain⟨hl,h|⟨g,cap,cur,hv,hg,hh,r⟩⟩:=h
 ·exact⟨hl,.inl h⟩
 ·exact⟨hl,.inr ⟨g,cap,cur,hv,hg,(hb.block g (Array.getElem?_eq_some_iff.1 hh).1).trans hh,r⟩⟩
theorem kW.snoc {w:World}{B:Nat}{v:Value}{l:List UInt8}{x:UInt8}(h:w.ownsRow B 5 1 v (l.length+1) ((l.map fun x=>.int .u8 (x.toNat:Int))++[.int .u8 (x.toNat:Int)])):kW w B v (l++[x]):=by
 unfold kW
 rw[List.length_append,List.map_append]
 exact h
theorem kW.conv {w:World}{B:Nat}{v:Value}{l:List UInt8}(h:kW w B v l):(convert 22 9 v).run Tryz.prog w=.ok (.string ⟨l.toArray⟩) w:=by
 rcases id h with⟨hl,h1|⟨g,cap,cur,hv,hg,hh,r⟩⟩
 ·obtain⟨rfl,h2⟩:=h1
  obtain rfl:=List.length_eq_zero_iff.1 h2
  rw[run_convert_bytes_string w 22 9 5 none 0 0 Tryz.underlying22 Tryz.underlying5 Tryz.underlying9]
  rfl
 ·subst hv
  refine run_convert_bytes_back (P:=Tryz.prog) w 22 9 5 ⟨g,0,none⟩ cap l Tryz.underlying22 Tryz.underlying5 Tryz.underlying9 (fun j hj=>?_)
  have e:(⟨g,0,none⟩:Addr).add j=⟨g,j,none⟩:=by unfold Addr.add;by_cases h:j=0 <;> simp[h]
  rw[e,World.ownsRow.cellAt h j (by omega)]
  simp[hj]
theorem Tryz.infoB8:(Tryz.prog.info? 5).map (fun i=>(i.zero,i.size,i.bytes))=some (some (.int .u8 0),1,1):=by kernel_rfl
def atOf (w:World)(R:Nat):Nat:=(intOf ((w.cell? ⟨R,1,none⟩).getD undef)).toNat
theorem Sr.atOf {w:World}{R p:Nat}{t:ByteArray}(h:Sr w R t p):atOf w R=p:=by
 unfold Go.Proofs.YtpfhegengmlkmabGreatDoor.atOf
 rw[h.c1]
 simp[intOf]
theorem Sr.grown {w w':World}{R p:Nat}{t:ByteArray}{row:Option Nat}(h:Sr w R t p)(hg:w.grownBy w' row)(hr:∀k,row=some k->R<k):Sr w' R t p:=
 h.same (hg.block R h.lt (fun e=>by have:=hr R e.symm;omega))
theorem But.grown2 {R:Nat}{x w w':World}{row:Option Nat}(h:But R x w)(hg:w.grownBy w' row)(hr:∀k,row=some k->x.heap.size<=k):But R x w':=
 ⟨hg.os.trans h.os,hg.tape.trans h.tape,hg.output.trans h.output,Nat.le_trans h.size hg.size,fun k hk hn=>(hg.block k (Nat.lt_of_lt_of_le hk h.size) (fun e=>by have:=hr k e.symm;omega)).trans (h.block k hk hn)⟩
def MC (w:World)(R:Nat)(t:ByteArray)(p:Nat)(e:Ending):Prop:=∃s p',e=.returned (.string s)/\Sr w R t p'/\p<=p'/\(bl t).drop p=bl s++(bl t).drop p'/\CZ (bl s)/\(∀x,((bl t).drop p').head?=some x->¬NB (x.toNat:Int))/\s.size<=1000
set_option maxHeartbeats 1600000 in
theorem name_any (R p:Nat)(t:ByteArray)(w:World)(hr:Sr w R t p) :
  Calls Tryz.prog 196 #[.pointer (some ⟨R,0,none⟩)] w fun e w'=>MC w' R t p e/\But R w w':=by
 obtain⟨i0,hi,hz0,hz1,hz2⟩:=info_parts Tryz.infoB8
 have hR:=hr.lt
 go_enter Tryz.func196,Tryz.ntmps196
 go_wp2_with fail
 go_loopw [3] (fun nm wr=>∃k:Nat,p<=k/\k<=t.size/\kW wr w.heap.size nm (((bl t).take k).drop p)/\CZ (((bl t).take k).drop p)/\Sr wr R t k/\But R w wr) (fun _ wr=>t.size-atOf wr R)
 case atStart=>exact⟨p,Nat.le_refl _,hr.le,by rw[List.drop_of_length_le (by rw[List.length_take];omega)];exact Eh _ _,by rw[List.drop_of_length_le (by rw[List.length_take];omega)];intro x hx;simp at hx,hr,But.refl _ _⟩
 case round=>
  obtain⟨k,hpk,hkt,hg,hnb,hrr,hbr⟩:=hrel
  have hsm:=hrr.small
  have HM:Hid (atOf wr R=k):=hrr.atOf
  go_wp2_with fail
  refine(lG R k t _ hrr).mono ?_
  rintro e w1 ⟨rfl,b1⟩
  go_wp2_with fail
  refine(nM _ _).mono ?_
  rintro e w1' ⟨⟨r,rfl,hnbr⟩,rfl⟩
  replace hrr:=hrr.below b1
  replace hg:=hg.keep b1
  replace hbr:=hbr.trans (But.of_below b1)
  have HNB:Hid (CZ (((bl t).take k).drop p)):=hnb
  have zz1:=hbr.size
  clear b1 hnb
  cases r
  ·have hno:¬NB ((pk t k).toNat:Int):=fun h=>by simpa using hnbr.2 h
   have hcv:=hg.conv
   have HF:Hid (MC w1' R t p (.returned (.string ⟨(((bl t).take k).drop p).toArray⟩))):=by
    refine⟨_,k,rfl,hrr,hpk, ?_,HNB.out,fun x hx hn=>?_, ?_⟩
    ·rw[show bl ⟨(((bl t).take k).drop p).toArray⟩=((bl t).take k).drop p from rfl]
     exact xQ hpk (by rw[ak];omega)
    ·have hk:k<t.size:=by
      rw[List.head?_drop]at hx
      have:=(List.getElem?_eq_some_iff.1 hx).1
      rwa [ak]at this
     rw[List.head?_drop,iQ t k hk]at hx
     have e:t[k]=x:=by simpa using hx
     rw[<- e,<- qG hk]at hn
     exact hno hn
    ·show(((bl t).take k).drop p).toArray.size<=1000
     rw[List.size_toArray,List.length_drop,List.length_take]
     omega
   clear hnbr hno
   go_wp2_with fail
   go_ret
   exact⟨HF.out,hbr⟩
  ·have hyes:NB ((pk t k).toNat:Int):=hnbr.1 rfl
   have hk:k<t.size:=Classical.byContradiction fun h=>by
    rw[Am h]at hyes
    revert hyes
    unfold NB
    decide
   clear hnbr
   go_wp2_with fail
   refine(lG R k t _ hrr).mono ?_
   rintro e w3 ⟨rfl,b3⟩
   replace hrr:=hrr.below b3
   replace hg:=hg.keep b3
   replace hbr:=hbr.trans (But.of_below b3)
   have zz3:=hbr.size
   clear b3
   have HST:Hid (((bl t).take (k+1)).drop p=((bl t).take k).drop p++[pk t k]/\CZ (((bl t).take (k+1)).drop p)):=by
    have hat:=iQ t k hk
    obtain⟨hl,e⟩:=List.getElem?_eq_some_iff.1 hat
    have e1:((bl t).take (k+1)).drop p=((bl t).take k).drop p++[pk t k]:=by
     rw[List.take_succ_eq_append_getElem hl,List.drop_append,List.length_take,Nat.min_eq_left (by omega),show p-k=0 by omega,List.drop_zero,e,qG hk]
    refine⟨e1, ?_⟩
    rw[e1]
    intro x hx
    rcases List.mem_append.1 hx with h|h
    ·exact HNB.out x h
    ·rw[List.mem_singleton.1 h];exact hyes
   have hlen:(((bl t).take k).drop p).length<=1000:=by rw[List.length_drop,List.length_take];omega
   clear HNB hyes
   generalize ((bl t).take k).drop p=l at *
   have hg4:w3.ownsRow w.heap.size 5 1 _ l.length (l.map fun x=>.int .u8 (x.toNat:Int)):=hg
   have hob:=aN hg4
   have hba:Below w3.heap.size w3 (w3.alloc (.cells #[.int .u8 ((pk t k).toNat:Int)] 5)):=(Below.refl _ _).alloc (Nat.le_refl _) _
   go_wp2_with (at_builtin;refine wpList_append_lies _ rfl _ _ 22 rfl w.heap.size 5 i0 (.int .u8 0) 1 1 Tryz.underlying22 hi hz0 hz1 hz2 rfl (by decide) _ _ _ rfl (hg4.alloc _) ⟨w3.heap.size,0,none⟩ 1 1 [.int .u8 ((pk t k).toNat:Int)] rfl rfl (fA w3 _ _) (by simp[Value.oneCell']) (by decide) (by unfold maxLen;omega) (by omega) (by simp;omega) _ rfl ?_;intro g' cap' w5 hown' hgrow _ _;have hr5:=(hrr.below hba).grown hgrow (fun q e=>by have:=hob q e;omega);have hc0:=hr5.c0;have hc1:=hr5.c1;have hf1:=hr5.f1)
   have hB5:But R w w5:=(hbr.trans (But.of_below hba)).grown2 hgrow hob
   have hr6:=hr5.step hk
   refine⟨⟨k+1,by omega,hk, ?_,HST.out.2,hr6,hB5.setCell _ _⟩, ?_⟩
   ·rw[HST.out.1]
    exact(kW.snoc hown').but ((But.refl R w5).setCell _ _) hR
   ·rw[hr6.atOf,HM.out]
    omega
def wC (r:List UInt8):Prop:=∀x,r.head?=some x->¬DG x
def Gq (r:List UInt8)(v:Int)(ok:Bool)(r':List UInt8):Prop:=(ok=true->∃d,r=d++r'/\Au d v/\wC r')/\(ok=false->∀d q v',r=d++q->Au d v'->wC q->False)
def NE (w:World)(R:Nat)(t:ByteArray)(p:Nat)(e:Ending):Prop:=∃v ok p',e=.returned (.tuple #[.int .i64 v,.bool ok])/\Sr w R t p'/\p<=p'/\Gq ((bl t).drop p) v ok ((bl t).drop p')
theorem vF {t:ByteArray}{k:Nat}{x:UInt8}:((bl t).drop k).head?=some x↔(k<t.size/\pk t k=x):=by
 rw[List.head?_drop]
 constructor
 ·intro h
  have hk:k<t.size:=by
   have:=(List.getElem?_eq_some_iff.1 h).1
   rwa [ak]at this
  rw[iQ t k hk]at h
  exact⟨hk,by rw[qG hk];simpa using h⟩
 ·rintro⟨hk,rfl⟩
  rw[iQ t k hk,qG hk]
theorem rG {t:ByteArray}{k:Nat}(hk:k<t.size):(bl t).drop k=pk t k::(bl t).drop (k+1):=by
 rw[qG hk]
 exact drop_cons (iQ t k hk)
theorem GZ {d d0 q r:List UInt8}{v:Int}{x:UInt8}(he:d0++x::r=d++q)(h0:∀y∈d0,DG y)(hx:DG x)(hd:Au d v)(hq:wC q)(hg:1099511627776<aY 0 (d0++[x])):False:=by
 have key:∀(d0 d:List UInt8),d0++x::r=d++q->(∀y∈d0,DG y)->∃d2,d=d0++x::d2:=by
  intro d0
  induction d0 with
  |nil=>
   intro d he _
   cases d with
   |nil=>exact absurd hx (hq x (by rw[<- show x::r=q from he];rfl))
   |cons y d=>
    simp only[List.nil_append,List.cons_append,List.cons.injEq]at he
    exact⟨d,by rw[he.1];rfl⟩
  |cons y d0 ih=>
   intro d he h0
   cases d with
   |nil=>exact absurd (h0 y (List.mem_cons_self ..)) (hq y (by rw[<- show y::(d0++x::r)=q from he];rfl))
   |cons z d=>
    simp only[List.cons_append,List.cons.injEq]at he
    obtain⟨d2,rfl⟩:=ih d he.2 (fun y hy=>h0 y (List.mem_cons_of_mem _ hy))
    exact⟨d2,by rw[he.1];rfl⟩
 obtain⟨d2,rfl⟩:=key d0 d he h0
 have h5:=hd.2.2.2.2
 have e:d0++x::d2=(d0++[x])++d2:=by simp
 rw[e,uB]at h5
 have:=sS d2 (aY 0 (d0++[x]))
 omega
set_option maxHeartbeats 1600000 in
theorem Gn (R p:Nat)(t:ByteArray)(w:World)(hr:Sr w R t p) :
  Calls Tryz.prog 197 #[.pointer (some ⟨R,0,none⟩)] w fun e w'=>NE w' R t p e/\But R w w':=by
 have hR:=hr.lt
 go_enter Tryz.func197,Tryz.ntmps197
 go_wp2_with fail
 refine(lG R p t _ hr).mono ?_
 rintro e w1 ⟨rfl,b1⟩
 replace hr:=hr.below b1
 have hb1:But R w w1:=But.of_below b1
 clear b1
 by_cases h48:pk t p=48
 ·have h48':(((pk t p).toNat:Int)==48)=true:=by rw[h48];decide
  have HV:Hid (Gq ((bl t).drop p) 0 false ((bl t).drop p)):=by
   refine⟨fun e=>Bool.noConfusion e,fun _ d q v' he hd _=>?_⟩
   have hk:p<t.size:=Classical.byContradiction fun h=>by rw[Am h]at h48;exact absurd h48 (by decide)
   rw[rG hk,h48]at he
   cases d with
   |nil=>exact hd.1 rfl
   |cons y d=>
    simp only[List.cons_append,List.cons.injEq]at he
    exact hd.2.1 (by rw[<- he.1];rfl)
  clear h48
  go_wp2_with fail
  exact bodyPost_ret (v:=.tuple #[.int .i64 0,.bool false]) (by simp[results,Tryz.results197,go_sem]) rfl ⟨⟨0,false,p,rfl,hr,Nat.le_refl _,HV.out⟩,hb1⟩
 have h48':(((pk t p).toNat:Int)==48)=false:=by
  rw[beq_eq_false_iff_ne]
  exact fun e=>h48 (UInt8.toNat_inj.1 (by rw[show(48:UInt8).toNat=48 from rfl];omega))
 have H48:Hid (pk t p≠48):=h48
 clear h48
 go_wp2_with fail
 go_loopw [4] (fun vv wr=>∃k:Nat,p<=k/\k<=t.size/\vv=.int .i64 (aY 0 (((bl t).take k).drop p):Nat)/\aY 0 (((bl t).take k).drop p)<=1099511627776/\(∀x∈((bl t).take k).drop p,DG x)/\Sr wr R t k/\But R w wr) (fun _ wr=>t.size-atOf wr R)
 case atStart=>
  have e:((bl t).take p).drop p=[]:=List.drop_of_length_le (by rw[List.length_take];omega)
  exact⟨p,Nat.le_refl _,hr.le,by rw[e];rfl,by rw[e,iT];omega,by rw[e];intro x hx;simp at hx,hr,hb1⟩
 case round=>
  obtain⟨k,hpk,hkt,rfl,hV,hall,hrr,hbr⟩:=hrel
  have hsm:=hrr.small
  have HM:Hid (atOf wr R=k):=hrr.atOf
  have hde:(bl t).drop p=((bl t).take k).drop p++(bl t).drop k:=xQ hpk (by rw[ak];omega)
  have HHD:Hid (((bl t).take k).drop p≠[]->(((bl t).take k).drop p).head?≠some 48):=fun hne he=>by
   have hlt:p<k:=Classical.byContradiction fun h=>hne (List.drop_of_length_le (by rw[List.length_take];omega))
   have h1:((bl t).drop p).head?=some 48:=by
    rw[hde]
    cases hd:((bl t).take k).drop p with
    |nil=>exact absurd hd hne
    |cons y d=>rw[hd]at he;simpa using he
   exact H48.out (vF.1 h1).2
  have hst:k<t.size->((bl t).take (k+1)).drop p=((bl t).take k).drop p++[pk t k]:=fun hk=>by
   obtain⟨hl,e⟩:=List.getElem?_eq_some_iff.1 (iQ t k hk)
   rw[List.take_succ_eq_append_getElem hl,List.drop_append,List.length_take,Nat.min_eq_left (by omega),show p-k=0 by omega,List.drop_zero,e,qG hk]
  have HST:Hid (k<t.size->((bl t).take (k+1)).drop p=((bl t).take k).drop p++[pk t k]):=hst
  have HDE:Hid ((bl t).drop p=((bl t).take k).drop p++(bl t).drop k):=hde
  have HALL:Hid (∀x∈((bl t).take k).drop p,DG x):=hall
  clear hst hde hall
  generalize ((bl t).take k).drop p=d0 at *
  go_wp2_with fail
  refine(lG R k t _ hrr).mono ?_
  rintro e w2 ⟨rfl,b2⟩
  go_wp2_with fail
  refine(uf _ _).mono ?_
  rintro e w2' ⟨⟨r,rfl,hdg⟩,rfl⟩
  replace hrr:=hrr.below b2
  replace hbr:=hbr.trans (But.of_below b2)
  clear b2
  cases r
  ·have HND:Hid (wC ((bl t).drop k)):=fun x hx hd=>by
    obtain⟨_,rfl⟩:=vF.1 hx
    have:=hdg.2 ⟨by have:=hd.1;omega,by have:=hd.2;omega⟩
    simp at this
   clear hdg
   by_cases hv0:aY 0 d0=0
   ·have HV:Hid (Gq ((bl t).drop p) 0 false ((bl t).drop k)):=by
     refine⟨fun e=>Bool.noConfusion e,fun _ d q v' he hd hq=>?_⟩
     rw[HDE.out]at he
     obtain⟨rfl,_⟩:=vg he HALL.out hd.2.2.1 HND.out hq
     have:=hd.pos
     rw[hd.2.2.2.1,hv0]at this
     omega
    have hv0':decide ((0:Int)<((aY 0 d0:Nat):Int))=false:=by rw[hv0];simp
    rw[hv0]
    clear hv0 hv0'
    go_wp2_with fail
    exact bodyPost_ret (v:=.tuple #[.int .i64 0,.bool false]) (by simp[results,Tryz.results197,go_sem]) rfl ⟨⟨0,false,k,rfl,hrr,hpk,HV.out⟩,hbr⟩
   ·have HV:Hid (Gq ((bl t).drop p) ((aY 0 d0:Nat):Int) true ((bl t).drop k)):=by
     refine⟨fun _=>⟨d0,HDE.out, ?_,HND.out⟩,fun e=>Bool.noConfusion e⟩
     have hne:d0≠[]:=fun e=>hv0 (by rw[e,iT])
     exact⟨hne,HHD.out hne,HALL.out,rfl,hV⟩
    have hv1:0<aY 0 d0:=by omega
    clear hv0 HHD HST HDE HALL
    generalize aY 0 d0=V at *
    go_wp2_with fail
    exact bodyPost_ret (v:=.tuple #[.int .i64 (V:Int),.bool true]) (by simp[results,Tryz.results197,go_sem]) rfl ⟨⟨(V:Int),true,k,rfl,hrr,hpk,HV.out⟩,hbr⟩
  ·have hyes:=hdg.1 rfl
   have hk:k<t.size:=Classical.byContradiction fun h=>by
    rw[Am h]at hyes
    revert hyes
    decide
   clear hdg
   have hd1:=hyes.1
   have hd2:=hyes.2
   have HDG:Hid (DG (pk t k)):=⟨by omega,by omega⟩
   clear hyes
   have HSN:Hid (aY 0 (d0++[pk t k])=10*aY 0 d0+((pk t k).toNat-48)):=lI 0 d0 (pk t k)
   by_cases hbig:1099511627776<aY 0 d0*10+((pk t k).toNat-48)
   ·have HV:Hid (Gq ((bl t).drop p) 0 false ((bl t).drop k)):=by
     refine⟨fun e=>Bool.noConfusion e,fun _ d q v' he hd hq=>?_⟩
     rw[HDE.out,rG hk]at he
     exact GZ he HALL.out HDG.out hd hq (by rw[HSN.out];omega)
    clear HHD HST HDE HALL HSN
    generalize aY 0 d0=V at *
    go_wp2_with fail
    refine(lG R k t _ hrr).mono ?_
    rintro e w3 ⟨rfl,b3⟩
    replace hrr:=hrr.below b3
    replace hbr:=hbr.trans (But.of_below b3)
    clear b3
    go_wp2_with fail
    exact bodyPost_ret (v:=.tuple #[.int .i64 0,.bool false]) (by simp[results,Tryz.results197,go_sem]) rfl ⟨⟨0,false,k,rfl,hrr,hpk,HV.out⟩,hbr⟩
   ·have HN:Hid (((bl t).take (k+1)).drop p=d0++[pk t k]/\aY 0 (d0++[pk t k])<=1099511627776/\∀x∈d0++[pk t k],DG x):=by
     refine⟨HST.out hk,by rw[HSN.out];omega,fun x hx=>?_⟩
     rcases List.mem_append.1 hx with h|h
     ·exact HALL.out x h
     ·rw[List.mem_singleton.1 h];exact HDG.out
    clear HHD HST HDE HALL
    have HSN2:Hid (∀V,V=aY 0 d0->aY 0 (d0++[pk t k])=10*V+((pk t k).toNat-48)):=fun V e=>by rw[e];exact HSN.out
    clear HSN
    obtain⟨V,hVe⟩:∃V,V=aY 0 d0:=⟨_,rfl⟩
    have HSN3:=HSN2.out V hVe
    rw[<- hVe]at hV hbig ⊢
    have HSN4:Hid (aY 0 (d0++[pk t k])=10*V+((pk t k).toNat-48)):=HSN3
    clear HSN2 HSN3 hVe
    go_wp2_with fail
    refine(lG R k t _ hrr).mono ?_
    rintro e w3 ⟨rfl,b3⟩
    replace hrr:=hrr.below b3
    replace hbr:=hbr.trans (But.of_below b3)
    clear b3
    have hc0:=hrr.c0
    have hc1:=hrr.c1
    have hf1:=hrr.f1
    go_wp2_with fail
    have hr6:=hrr.step hk
    refine⟨⟨k+1,by omega,hk, ?_,by rw[HN.out.1];exact HN.out.2.1,by rw[HN.out.1];exact HN.out.2.2,hr6,hbr.setCell _ _⟩, ?_⟩
    ·rw[HN.out.1,HSN4.out]
     congr 1
     omega
    ·rw[hr6.atOf,HM.out]
     omega
end Go.Proofs.YtpfhegengmlkmabGreatDoor
