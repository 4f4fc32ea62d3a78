/- Texts of this claim. -/
import Derived.Test.YtpfhegengmlkmacGreatDoorZt2
namespace Go.Proofs.YtpfhegengmlkmacGreatDoor
structure PSpec (a b:List (ByteArray×Int)) (P:List ((ByteArray×Int)×(ByteArray×Int))):Prop where
 mem:∀ p∈P,p.1=(p.1.1,getM a p.1.1)∧p.2=(p.1.1,getM b p.1.1)∧(0 < p.1.2∨0 < p.2.2)
 all:∀ s,0 < getM a s∨0 < getM b s->∃ p∈P,p.1.1=s
 asc:P.Pairwise (fun p q=>Asc p.1.1 q.1.1)
theorem pspec_nil:PSpec [] [] []:=⟨by simp,by simp [getM],List.Pairwise.nil⟩
theorem pspec_cons {a b a' b':List (ByteArray×Int)} {P:List ((ByteArray×Int)×(ByteArray×Int))} {t:ByteArray} {va vb:Int}
  (ha:∀ s,getM a s=if s=t then va else getM a' s) (hb:∀ s,getM b s=if s=t then vb else getM b' s) (hp:0 < va∨0 < vb)
  (ka:∀ s,0 < getM a' s->Asc t s) (kb:∀ s,0 < getM b' s->Asc t s) (h:PSpec a' b' P):PSpec a b (((t,va),(t,vb)) :: P):=by
 have above:∀ p∈P,Asc t p.1.1:=fun p hm=>by
  obtain ⟨e1,e2,e3⟩:=h.mem p hm
  rcases e3 with e3 | e3
  ·exact ka _ (by rw [e1] at e3;exact e3)
  ·exact kb _ (by rw [e2] at e3;exact e3)
 refine ⟨fun p hm=>?_,fun s hs=>?_,List.pairwise_cons.2 ⟨fun p hm=>above p hm,h.asc⟩⟩
 ·rcases List.mem_cons.1 hm with rfl | hm
  ·refine ⟨?_, ?_,hp⟩
   ·simp [ha]
   ·simp [hb]
  ·obtain ⟨e1,e2,e3⟩:=h.mem p hm
   have hne:¬ p.1.1=t:=Ne.symm (asc_ne (above p hm))
   exact ⟨by rw [ha,if_neg hne];exact e1,by rw [hb,if_neg hne];exact e2,e3⟩
 ·by_cases e:s=t
  ·subst e;exact ⟨_,List.mem_cons_self,rfl⟩
  ·rw [ha,if_neg e,hb,if_neg e] at hs
   obtain ⟨p,hm,hp⟩:=h.all s hs
   exact ⟨p,List.mem_cons_of_mem _ hm,hp⟩
theorem get_head {m:ByteArray×Int} {l:List (ByteArray×Int)} (_:Sorted (m :: l)) (s:ByteArray):getM (m :: l) s=if s=m.1 then m.2 else getM l s:=by
 rw [getM]
 by_cases e:m.1=s
 ·rw [if_pos e,if_pos e.symm]
 ·rw [if_neg e,if_neg (Ne.symm e)]
theorem get_low {t:ByteArray} {l:List (ByteArray×Int)} (h:∀ m∈l,Asc t m.1) (s:ByteArray):getM l s=if s=t then 0 else getM l s:=by
 by_cases e:s=t
 ·subst e;rw [if_pos rfl,getM_not_mem fun m hm=>Ne.symm (asc_ne (h m hm))]
 ·rw [if_neg e]
theorem get_above {t:ByteArray} {l:List (ByteArray×Int)} (h:∀ m∈l,Asc t m.1) (s:ByteArray) (hs:0 < getM l s):Asc t s:=h _ (getM_pos hs)
theorem pairs_spec:∀ (n:Nat) (a b:List (ByteArray×Int)),Sorted a->Sorted b->a.length + b.length<=n->PSpec a b (pairsF n a b)
 | 0,a,b,_,_,h=>by
  obtain rfl:a=[]:=List.length_eq_zero_iff.1 (by omega)
  obtain rfl:b=[]:=List.length_eq_zero_iff.1 (by omega)
  exact pspec_nil
 | n + 1,[],[],_,_,_=>pspec_nil
 | n + 1,m :: a,[],ha,_,h=>by
  have h0:=sorted_head ha
  simp only [pairsF,headP]
  rw [if_pos (by omega),if_neg (by omega)]
  exact pspec_cons (get_head ha) (get_low (by simp)) (.inl (by omega)) (get_above fun x hx=>sorted_above ha hx) (by simp [getM]) (pairs_spec n a [] (sorted_tail ha) sorted_nil (by simp at h ⊢;omega))
 | n + 1,[],m :: b,_,hb,h=>by
  have h0:=sorted_head hb
  simp only [pairsF,headP]
  rw [if_neg (by omega),if_pos (by omega)]
  exact pspec_cons (get_low (by simp)) (get_head hb) (.inr (by omega)) (by simp [getM]) (get_above fun x hx=>sorted_above hb hx) (pairs_spec n [] b sorted_nil (sorted_tail hb) (by simp at h ⊢;omega))
 | n + 1,x :: a,y :: b,ha,hb,h=>by
  have hx:=sorted_head ha
  have hy:=sorted_head hb
  by_cases h1:Op.bytesLess x.1.toList y.1.toList=true
  ·simp only [pairsF,headP,h1,if_true]
   rw [if_pos (by omega),if_neg (by omega)]
   have low:∀ m∈y :: b,Asc x.1 m.1:=fun m hm=>by
    rcases List.mem_cons.1 hm with rfl | hm
    ·exact h1
    ·exact asc_trans h1 (sorted_above hb hm)
   exact pspec_cons (get_head ha) (get_low low) (.inl (by omega)) (get_above fun x hx=>sorted_above ha hx) (get_above low) (pairs_spec n a (y :: b) (sorted_tail ha) hb (by simp at h ⊢;omega))
  ·by_cases h2:Op.bytesLess y.1.toList x.1.toList=true
   ·have hy':0 < y.2:=by omega
    have hP:pairsF (n + 1) (x :: a) (y :: b)=((y.1,0),y) :: pairsF n (x :: a) b:=by simp [pairsF,headP,h1,h2,hy']
    rw [hP]
    have low:∀ m∈x :: a,Asc y.1 m.1:=fun m hm=>by
     rcases List.mem_cons.1 hm with rfl | hm
     ·exact h2
     ·exact asc_trans h2 (sorted_above ha hm)
    exact pspec_cons (get_low low) (get_head hb) (.inr (by omega)) (get_above low) (get_above fun x hx=>sorted_above hb hx) (pairs_spec n (x :: a) b ha (sorted_tail hb) (by simp at h ⊢;omega))
   ·have e:x.1=y.1:=asc_tri h1 h2
    have hx':0 < x.2:=by omega
    have hy':0 < y.2:=by omega
    have hP:pairsF (n + 1) (x :: a) (y :: b)=(x,y) :: pairsF n a b:=by simp [pairsF,headP,h1,h2,hx',hy']
    rw [hP]
    have e2:y=(x.1,y.2):=Prod.ext e.symm rfl
    have hb':=get_head hb
    rw [<- e] at hb'
    have:=pspec_cons (t:=x.1) (va:=x.2) (vb:=y.2) (get_head ha) hb' (.inl (by omega)) (get_above fun x hx=>sorted_above ha hx) (get_above fun z hz=>by rw [e];exact sorted_above hb hz) (pairs_spec n a b (sorted_tail ha) (sorted_tail hb) (by simp at h ⊢;omega))
    rw [<- e2] at this
    exact this
theorem pairs_length:∀ (n:Nat) (a b:List (ByteArray×Int)),(pairsF n a b).length<=n
 | 0,_,_=>by simp [pairsF]
 | n + 1,a,b=>by
  simp only [pairsF]
  cases headP a b with
  | none=>simp
  | some p=>simp;exact pairs_length n _ _
def laterM (x y:ByteArray×Int):ByteArray×Int:=if x.2 < y.2 then y else x
def joinP (P:List ((ByteArray×Int)×(ByteArray×Int))):List (ByteArray×Int):=P.map fun p=>laterM p.1 p.2
def setR (m:ByteArray×Int):List (ByteArray×Int)->List (ByteArray×Int)
 | []=>[m]
 | x :: r=>if Op.bytesLess x.1.toList m.1.toList=true then x :: setR m r else m :: (x :: r).filter fun y=>decide (y.1≠m.1)
def setT (m:ByteArray×Int) (put:Bool) (l:List (ByteArray×Int)):List (ByteArray×Int):=if put then l.filter fun y=>decide (y.1≠m.1) else setR m l
theorem setR_mem {m y:ByteArray×Int}:∀ {l:List (ByteArray×Int)},y∈setR m l->y=m∨y∈l
 | [],h=>by simp [setR] at h;exact .inl h
 | x :: r,h=>by
  unfold setR at h
  split at h
  ·rcases List.mem_cons.1 h with rfl | h
   ·exact .inr (by simp)
   ·exact (setR_mem h).imp id (List.mem_cons_of_mem _)
  ·rcases List.mem_cons.1 h with rfl | h
   ·exact .inl rfl
   ·exact .inr (List.mem_filter.1 h).1
theorem setR_length {m:ByteArray×Int}:∀ {l:List (ByteArray×Int)},(setR m l).length<=l.length + 1
 | []=>by simp [setR]
 | x :: r=>by
  unfold setR
  split
  ·have:=setR_length (m:=m) (l:=r);simp only [List.length_cons];omega
  ·simp only [List.length_cons];have:=List.length_filter_le (fun y=>decide (y.1≠m.1)) (x :: r);simp only [List.length_cons] at this;omega
theorem setR_snoc {m:ByteArray×Int}:∀ {l:List (ByteArray×Int)},(∀ x∈l,Asc x.1 m.1)->setR m l=l ++ [m]
 | [],_=>rfl
 | x :: r,h=>by
  unfold setR
  rw [if_pos (show Op.bytesLess x.1.toList m.1.toList=true from h x (by simp)),setR_snoc fun y hy=>h y (List.mem_cons_of_mem _ hy)]
  rfl
theorem getM_filter {t s:ByteArray} (hs:s≠t):∀ {l:List (ByteArray×Int)},getM (l.filter fun y=>decide (y.1≠t)) s=getM l s
 | []=>rfl
 | x :: r=>by
  have ih:=getM_filter hs (l:=r)
  by_cases hx:x.1=t
  ·have hd:decide (x.1≠t)=false:=by simp [hx]
   rw [List.filter_cons_of_neg (by simp [hx]),ih]
   simp only [getM]
   rw [if_neg (fun e=>hs (e.symm.trans hx))]
  ·rw [List.filter_cons_of_pos (by simp [hx])]
   simp only [getM,ih]
theorem setR_get {m:ByteArray×Int} (s:ByteArray):∀ {l:List (ByteArray×Int)},getM (setR m l) s=if s=m.1 then m.2 else getM l s
 | []=>by simp only [setR,getM];by_cases h:s=m.1 <;> simp [h,eq_comm]
 | x :: r=>by
  unfold setR
  split
  ·rename_i hx
   have hne:x.1≠m.1:=asc_ne hx
   simp only [getM,setR_get (m:=m) s (l:=r)]
   by_cases h:s=m.1
   ·subst h;rw [if_neg hne,if_pos rfl,if_pos rfl]
   ·rw [if_neg h,if_neg h]
  ·by_cases h:s=m.1
   ·subst h;simp [getM]
   ·rw [if_neg h]
    simp only [getM]
    rw [if_neg (fun e=>h e.symm),getM_filter h]
    simp only [getM]
theorem setR_sorted {m:ByteArray×Int} (hm:1<=m.2):∀ {l:List (ByteArray×Int)},Sorted l->Sorted (setR m l)
 | [],_=>⟨by simp [setR],by simp [setR];exact hm⟩
 | x :: r,h=>by
  unfold setR
  split
  ·rename_i hx
   have ih:=setR_sorted hm (sorted_tail h)
   refine ⟨List.pairwise_cons.2 ⟨fun y hy=>?_,ih.1⟩,fun y hy=>?_⟩
   ·rcases setR_mem hy with rfl | hy
    ·exact hx
    ·exact sorted_above h hy
   ·rcases List.mem_cons.1 hy with rfl | hy
    ·exact sorted_head h
    ·exact ih.2 y hy
  ·rename_i hx
   refine ⟨List.pairwise_cons.2 ⟨fun y hy=>?_,List.Pairwise.filter _ h.1⟩,fun y hy=>?_⟩
   ·have hmem:=(List.mem_filter.1 hy).1
    have hne:y.1≠m.1:=by simpa using (List.mem_filter.1 hy).2
    by_cases hA:Asc m.1 y.1
    ·exact hA
    ·have:¬ Asc y.1 m.1:=fun k=>by
      rcases List.mem_cons.1 hmem with rfl | hr
      ·exact hx k
      ·exact hx (asc_trans (sorted_above h hr) k)
     exact absurd (asc_tri this hA) hne
   ·rcases List.mem_cons.1 hy with rfl | hy
    ·exact hm
    ·exact h.2 y (List.mem_filter.1 hy).1
theorem take_low {b:List (ByteArray×Int)} (h:Sorted b) {j:Nat} (hj:j < b.length):∀ x∈b.take j,Asc x.1 b[j].1:=fun x hx=>by
 have hp:=h.1
 rw [<- List.take_append_drop j b,List.pairwise_append] at hp
 exact hp.2.2 x hx b[j] (List.mem_iff_getElem.2 ⟨0,by simp;omega,by simp⟩)
theorem getM_take {b:List (ByteArray×Int)} (h:Sorted b) {j:Nat} (hj:j < b.length) (s:ByteArray):getM (b.take (j + 1)) s=if s=b[j].1 then b[j].2 else getM (b.take j) s:=by
 rw [List.take_succ_eq_append_getElem hj]
 rw [<- setR_snoc (take_low h hj),setR_get]
theorem getM_take_new {b:List (ByteArray×Int)} (h:Sorted b) {j:Nat} (hj:j < b.length):getM (b.take j) b[j].1=0:=
 getM_not_mem fun m hm=>asc_ne (take_low h hj m hm)
def JoinOf (a b o:List (ByteArray×Int)):Prop:=Sorted o∧∀ s,getM o s=max (getM a s) (getM b s)
theorem joinOf_start {a b:List (ByteArray×Int)} (ha:Sorted a):JoinOf a (b.take 0) a:=⟨ha,fun s=>by
 have:=getM_nonneg (s:=s) ha
 have e:getM (b.take 0) s=0:=by simp [getM]
 rw [e];omega⟩
theorem joinOf_set {a b o:List (ByteArray×Int)} (hb:Sorted b) {j:Nat} (hj:j < b.length) (h:JoinOf a (b.take j) o) (hlt:getM o b[j].1 < b[j].2):JoinOf a (b.take (j + 1)) (setR b[j] o):=by
 refine ⟨setR_sorted (hb.2 _ (List.getElem_mem hj)) h.1,fun s=>?_⟩
 have h1:=h.2 s
 rw [setR_get,getM_take hb hj]
 by_cases e:s=b[j].1
 ·subst e
  rw [if_pos rfl,if_pos rfl]
  rw [getM_take_new hb hj] at h1
  omega
 ·rw [if_neg e,if_neg e];exact h1
theorem joinOf_keep {a b o:List (ByteArray×Int)} (hb:Sorted b) {j:Nat} (hj:j < b.length) (h:JoinOf a (b.take j) o) (hlt:¬ getM o b[j].1 < b[j].2):JoinOf a (b.take (j + 1)) o:=by
 refine ⟨h.1,fun s=>?_⟩
 have h1:=h.2 s
 have h2:=hb.2 _ (List.getElem_mem hj)
 rw [getM_take hb hj]
 by_cases e:s=b[j].1
 ·subst e
  rw [if_pos rfl]
  rw [getM_take_new hb hj] at h1
  omega
 ·rw [if_neg e];exact h1
def IsJ (a b m:List (ByteArray×Int)) (ok:Bool):Prop:=
 (¬ (StampP a∧StampP b)∧m=[]∧ok=false)∨(StampP a∧StampP b∧∃ o,JoinOf a b o∧((o.length<=12∧m=o∧ok=true)∨(12 < o.length∧m=[]∧ok=false)))
theorem IsJ.one {a b m m':List (ByteArray×Int)} {ok ok':Bool} (h:IsJ a b m ok) (k:IsJ a b m' ok'):m=m'∧ok=ok':=by
 rcases h with ⟨h1,rfl,rfl⟩ | ⟨h1,h2,o,⟨h3,h4⟩,h5⟩
 ·rcases k with ⟨_,rfl,rfl⟩ | ⟨k1,k2,_⟩
  ·exact ⟨rfl,rfl⟩
  ·exact absurd ⟨k1,k2⟩ h1
 ·rcases k with ⟨k1,_,_⟩ | ⟨k1,k2,o',⟨k3,k4⟩,k5⟩
  ·exact absurd ⟨h1,h2⟩ k1
  ·obtain rfl:o=o':=sorted_ext h3 k3 fun s=>by rw [h4,k4]
   rcases h5 with ⟨e1,rfl,rfl⟩ | ⟨e1,rfl,rfl⟩ <;> rcases k5 with ⟨e2,rfl,rfl⟩ | ⟨e2,rfl,rfl⟩
   ·exact ⟨rfl,rfl⟩
   ·omega
   ·omega
   ·exact ⟨rfl,rfl⟩
theorem laterM_name {p:(ByteArray×Int)×(ByteArray×Int)} (h:p.1.1=p.2.1):(laterM p.1 p.2).1=p.1.1:=by
 unfold laterM
 split
 ·exact h.symm
 ·rfl
theorem laterM_ver (p:(ByteArray×Int)×(ByteArray×Int)):(laterM p.1 p.2).2=max p.1.2 p.2.2:=by
 unfold laterM
 split <;> omega
theorem joinP_of {a b:List (ByteArray×Int)} {P:List ((ByteArray×Int)×(ByteArray×Int))} (ha:Sorted a) (hb:Sorted b) (hP:PSpec a b P):JoinOf a b (joinP P):=by
 have hn:∀ p∈P,p.1.1=p.2.1:=fun p hp=>by
  obtain ⟨_,e2,_⟩:=hP.mem p hp
  rw [e2]
 have hsort:Sorted (joinP P):=by
  refine ⟨?_,fun m hm=>?_⟩
  ·unfold joinP
   rw [List.pairwise_map]
   exact hP.asc.imp_of_mem fun {p q} hp hq h=>by rw [laterM_name (hn p hp),laterM_name (hn q hq)];exact h
  ·obtain ⟨p,hp,rfl⟩:=List.mem_map.1 hm
   rw [laterM_ver]
   have:=(hP.mem p hp).2.2
   omega
 refine ⟨hsort,fun s=>?_⟩
 have na:=getM_nonneg (s:=s) ha
 have nb:=getM_nonneg (s:=s) hb
 by_cases h:0 < getM a s∨0 < getM b s
 ·obtain ⟨p,hp,rfl⟩:=hP.all s h
  have hm:laterM p.1 p.2∈joinP P:=List.mem_map.2 ⟨p,hp,rfl⟩
  have e:=getM_mem hsort hm
  rw [laterM_name (hn p hp),laterM_ver] at e
  rw [e]
  obtain ⟨e1,e2,_⟩:=hP.mem p hp
  have f1:p.1.2=getM a p.1.1:=by rw [e1]
  have f2:p.2.2=getM b p.1.1:=by rw [e2]
  rw [f1,f2]
 ·rw [getM_not_mem]
  ·omega
  ·intro m hm e
   obtain ⟨p,hp,rfl⟩:=List.mem_map.1 hm
   rw [laterM_name (hn p hp)] at e
   obtain ⟨e1,e2,e3⟩:=hP.mem p hp
   have f1:p.1.2=getM a p.1.1:=by rw [e1]
   have f2:p.2.2=getM b p.1.1:=by rw [e2]
   rw [f1,f2,e] at e3
   exact h e3
end Go.Proofs.YtpfhegengmlkmacGreatDoor
namespace Go.Proofs.YtpfhegengmlkmacGreatDoor
open Go.RowKit
def IsB (p:Prop) (e:Ending):Prop:=∃ r:Bool,e=.returned (.bool r)∧(r=true↔p)
theorem isB_true {p:Prop} (h:p):IsB p (.returned (.bool true)):=⟨true,rfl,by simp [h]⟩
theorem isB_false {p:Prop} (h:¬ p):IsB p (.returned (.bool false)):=⟨false,rfl,by simp [h]⟩
set_option maxHeartbeats 400000 in
theorem isDigit_any (c:Int) (w:World) :
  Calls Tryz.prog 200 #[.int .u8 c] w fun e w'=>IsB (48<=c∧c<=57) e∧w'=w:=by
 go_enter Tryz.func200,Tryz.ntmps200
 go_wp2
 all_goals go_ret
 all_goals refine ⟨⟨_,rfl, ?_⟩,rfl⟩
 all_goals simp
 all_goals omega
set_option maxHeartbeats 400000 in
theorem isNameByte_any (c:Int) (w:World) :
  Calls Tryz.prog 180 #[.int .u8 c] w fun e w'=>IsB (NB c) e∧w'=w:=by
 go_enter Tryz.func180,Tryz.ntmps180
 go_wp2_with (first | (go_at_call 200;refine (isDigit_any _ _).mono ?_;rintro e w' ⟨⟨r,rfl,hr⟩,rfl⟩))
 all_goals go_ret
 all_goals refine ⟨⟨_,rfl, ?_⟩,rfl⟩
 all_goals simp only [NB,Bool.or_eq_true,decide_eq_true_eq,beq_iff_eq, *]
 all_goals first | omega | (simp;done) | (simp;omega)
theorem nb_step {s:ByteArray} {k:Nat} (H:∀ j,(h:j < s.size)->j < k->NB (s[j].toNat:Int)) (hk:k < s.size) (h:NB (s[k].toNat:Int)):∀ j,(h:j < s.size)->j < k + 1->NB (s[j].toNat:Int):=fun j hj hlt=>by
 by_cases e:j=k
 ·subst e;exact h
 ·exact H j hj (by omega)
set_option maxHeartbeats 400000 in
theorem nameOk_any (s:ByteArray) (w:World) (hs:s.size<=maxLen) :
  Calls Tryz.prog 146 #[.string s] w fun e w'=>IsB (NameP s) e∧w'=w:=by
 unfold maxLen at hs
 by_cases h1:s.size < 1
 ·go_enter Tryz.func146,Tryz.ntmps146
  go_wp2_with fail
  go_ret
  exact ⟨isB_false (fun h=>by have:=h.1;omega),rfl⟩
 by_cases h8:8 < s.size
 ·go_enter Tryz.func146,Tryz.ntmps146
  go_wp2_with fail
  go_ret
  exact ⟨isB_false (fun h=>by have:=h.2.1;omega),rfl⟩
 go_enter Tryz.func146,Tryz.ntmps146
 go_wp2_with fail
 go_loop [14] (fun i=>∃ k:Nat,k<=s.size∧i=.int .i64 k∧(∀ j,(h:j < s.size)->j < k->NB (s[j].toNat:Int))) (fun i=>s.size - (intOf i).toNat)
 case atStart=>exact ⟨0,Nat.zero_le _,rfl,fun j _ h=>by omega⟩
 case round=>
  obtain ⟨k,hk,rfl,hall⟩:=hrel
  by_cases hlt:k < s.size
  ·have HST:=nb_step hall hlt
   go_wp2_with (first | (go_at_call 180;refine (isNameByte_any _ _).mono ?_;rintro e w' ⟨⟨r,rfl,hr⟩,rfl⟩))
   ·go_ret
    exact ⟨isB_false (fun h=>by have:=hr.2 (h.2.2 k hlt);simp_all),rfl⟩
   ·exact ⟨⟨k + 1,by omega,by go_num,HST (hr.1 (by simp_all))⟩,by simp [intOf];omega⟩
  ·go_wp2_with fail
   go_ret
   exact ⟨isB_true ⟨by omega,by omega,fun j hj=>hall j hj (by omega)⟩,rfl⟩
theorem byte_le (s:ByteArray) (k:Nat) (h:k < s.size):(s[k].toNat:Int)<=255:=by
 have:=s[k].toNat_lt
 omega
set_option maxHeartbeats 400000 in
theorem l1Name_any (s:ByteArray) (w:World) (hs:s.size<=maxLen) :
  Calls Tryz.prog 120 #[.string s] w fun e w'=>IsB (NameP s) e∧w'=w:=by
 unfold maxLen at hs
 by_cases h1:s.size < 1
 ·go_enter Tryz.func120,Tryz.ntmps120
  go_wp2_with fail
  go_ret
  exact ⟨isB_false (fun h=>by have:=h.1;omega),rfl⟩
 by_cases h8:8 < s.size
 ·go_enter Tryz.func120,Tryz.ntmps120
  go_wp2_with fail
  go_ret
  exact ⟨isB_false (fun h=>by have:=h.2.1;omega),rfl⟩
 go_enter Tryz.func120,Tryz.ntmps120
 go_wp2_with fail
 go_loop [3] (fun i=>∃ k:Nat,k<=s.size∧i=.int .i64 k∧(∀ j,(h:j < s.size)->j < k->NB (s[j].toNat:Int))) (fun i=>s.size - (intOf i).toNat)
 case atStart=>exact ⟨0,Nat.zero_le _,rfl,fun j _ h=>by omega⟩
 case round=>
  obtain ⟨k,hk,rfl,hall⟩:=hrel
  by_cases hlt:k < s.size
  ·have HST:=nb_step hall hlt
   have hby:=byte_le s k hlt
   by_cases hnb:NB (s[k].toNat:Int)
   ·have hgo:NB (s[k].toNat:Int):=hnb
    unfold NB at hgo
    have HN:=HST hnb
    clear HST hnb hall
    go_wp2_with fail
    all_goals exact ⟨⟨k + 1,by omega,by go_num,HN⟩,by simp [intOf];omega⟩
   ·have hgo:=hnb
    unfold NB at hgo
    have hne:((s[k].toNat:Int) != 45)=true:=by rw [bne_iff_ne];omega
    clear HST hall
    go_wp2_with fail
    all_goals first | (go_ret;exact ⟨isB_false (fun h=>hnb (h.2.2 k hlt)),rfl⟩) | (exfalso;simp only [hne,Bool.true_eq_false,or_false] at *;omega)
  ·go_wp2_with fail
   go_ret
   exact ⟨isB_true ⟨by omega,by omega,fun j hj=>hall j hj (by omega)⟩,rfl⟩
set_option maxHeartbeats 400000 in
theorem ok_any (s:ByteArray) (v:Int) (w:World) (hs:s.size<=maxLen) :
  Calls Tryz.prog 166 #[.agg #[.string s,.int .i64 v]] w fun e w'=>IsB (MarkP (s,v)) e∧Below w.heap.size w w':=by
 go_enter Tryz.func166,Tryz.ntmps166
 go_wp2_with (first | (go_at_call 146;refine (nameOk_any _ _ hs).mono ?_;rintro e w' ⟨⟨r,rfl,hr⟩,rfl⟩;have HR:Hid (r=true↔NameP s):=hr;clear hr))
 all_goals go_ret
 all_goals refine ⟨⟨_,rfl, ?_⟩,(Below.refl _ _).alloc (Nat.le_refl _) _⟩
 all_goals have HR':=HR.out
 ·simp only [MarkP,decide_eq_true_eq]
  exact ⟨fun h=>⟨HR'.1 ‹_›,‹_›,h⟩,fun h=>h.2.2⟩
 ·exact ⟨fun h=>(by cases h),fun h=>by have:=h.2.1;simp only at this;omega⟩
 ·exact ⟨fun h=>(by cases h),fun h=>absurd (HR'.2 h.1) ‹_›⟩
set_option maxHeartbeats 800000 in
theorem specStampOk_any (a:Option Addr) (cap:Nat) (l:List (ByteArray×Int)) (w:World) (hl:l.length<=maxLen) (hr:Row w a l) (hs:∀ j,(h:j < l.length)->l[j].1.size<=maxLen) :
  Calls Tryz.prog 79 #[.slice a l.length cap] w fun e w'=>IsB (StampP l) e∧∃ n,w'=w.drewN n:=by
 unfold maxLen at hl
 by_cases h12:12 < l.length
 ·go_enter Tryz.func79,Tryz.ntmps79
  go_wp2_with fail
  go_ret
  exact ⟨isB_false (fun h=>by have:=h.1;omega),0,rfl⟩
 go_enter Tryz.func79,Tryz.ntmps79
 go_wp2_with fail
 go_loopw [3] (fun i wr=>∃ k:Nat,k<=l.length∧i=.int .i64 k∧StampTo l k∧∃ n,wr=w.drewN n) (fun i _=>l.length - (intOf i).toNat)
 case atStart=>exact ⟨0,Nat.zero_le _,rfl,stampTo_zero l,0,rfl⟩
 case round=>
  obtain ⟨k,hk,rfl,hall,nd,rfl⟩:=hrel
  by_cases hlt:k < l.length
  ·obtain ⟨b,o,rfl,hblt,c0,c1⟩:=hr k hlt
   have HS:=hs k hlt
   have HST:=stampTo_step hall hlt
   by_cases hk0:k < 1
   ·have hd:decide (0 < k)=false:=by simp;omega
    go_wp2_with (first | (go_at_call 120;refine (l1Name_any _ _ HS).mono ?_;rintro e w' ⟨⟨r,rfl,hr⟩,rfl⟩;have HR:Hid (r=true↔NameP l[k].1):=hr;clear hr))
    ·go_ret
     exact ⟨isB_false (fun h=>by have:=(h.2.1 k hlt).2;omega),nd,rfl⟩
    ·go_quiet (fail)
     go_wp2_with fail
     exact ⟨⟨k + 1,by omega,by go_num,HST ⟨HR.out.1 ‹_›,‹_›⟩ (fun h=>by omega),_,rfl⟩,by simp [intOf];omega⟩
    ·go_ret
     exact ⟨isB_false (fun h=>by have:=(h.2.1 k hlt).2;omega),nd,rfl⟩
    ·go_ret
     exact ⟨isB_false (fun h=>absurd (HR.out.2 (h.2.1 k hlt).1) ‹_›),nd,rfl⟩
   ·obtain ⟨b',o',he,_,d0,_⟩:=hr (k - 1) (by omega)
    obtain ⟨rfl,rfl⟩:b'=b∧o'=o:=by simp at he;exact ⟨he.1.symm,he.2.symm⟩
    have hd:decide (0 < k)=true:=by simp;omega
    go_wp2_with (first | (go_at_call 120;refine (l1Name_any _ _ HS).mono ?_;rintro e w' ⟨⟨r,rfl,hr⟩,rfl⟩;have HR:Hid (r=true↔NameP l[k].1):=hr;clear hr))
    ·go_ret
     exact ⟨isB_false (fun h=>by have:=(h.2.1 k hlt).2;omega),nd,rfl⟩
    ·go_quiet (fail)
     go_wp2_with fail
     ·go_ret
      exact ⟨isB_false (fun h=>by have:=asc_at h hk0 hlt;unfold Asc at this;simp_all),nd + nq,by simp⟩
     ·exact ⟨⟨k + 1,by omega,by go_num,HST ⟨HR.out.1 ‹_›,‹_›⟩ (fun _=>by unfold Asc;simp_all),_,rfl⟩,by simp [intOf];omega⟩
    ·go_ret
     exact ⟨isB_false (fun h=>by have:=(h.2.1 k hlt).2;omega),nd,rfl⟩
    ·go_ret
     exact ⟨isB_false (fun h=>absurd (HR.out.2 (h.2.1 k hlt).1) ‹_›),nd,rfl⟩
  ·go_wp2_with fail
   go_ret
   exact ⟨isB_true (stampP_of hall hlt (by omega)),nd,rfl⟩
theorem specOk_b (a:Option Addr) (cap:Nat) (l:List (ByteArray×Int)) (w:World) (hl:l.length<=maxLen) (hr:Row w a l) (hs:∀ j,(h:j < l.length)->l[j].1.size<=maxLen) :
  Calls Tryz.prog 79 #[.slice a l.length cap] w fun e w'=>IsB (StampP l) e∧Below w.heap.size w w':=
 (specStampOk_any a cap l w hl hr hs).mono fun _ _ ⟨h,n,hw⟩=>⟨h,by rw [hw];exact below_drewN (Below.refl _ _) n⟩
end Go.Proofs.YtpfhegengmlkmacGreatDoor
namespace Go.Proofs.YtpfhegengmlkmacGreatDoor
open Go.RowKit Go.BigFrame
theorem lat_below {w wr:World} {o:Obj} (hb:Below w.heap.size w wr) (n:Lat (wr.alloc o)):Below w.heap.size w n.w:=
 (hb.alloc hb.size o).trans (n.h.mono (Nat.le_trans hb.size (Nat.le_of_lt (box_lt _ _))))
theorem box_old (w:World) (o:Obj) {b i:Nat} (h:b < w.heap.size):(w.alloc o).cell? ⟨b,i,none⟩=w.cell? ⟨b,i,none⟩:=
 ((Below.refl w.heap.size w).alloc (Nat.le_refl _) o).cell h
theorem ok_yes (s:ByteArray) (v:Int) (w:World) (hs:s.size<=maxLen) (h:MarkP (s,v)) :
  Calls Tryz.prog 166 #[.agg #[.string s,.int .i64 v]] w fun e w'=>e=.returned (.bool true)∧Below w.heap.size w w':=
 (ok_any s v w hs).mono fun e w' ⟨⟨r,he,hr⟩,hb⟩=>⟨by rw [he,hr.2 h],hb⟩
theorem ok_no (s:ByteArray) (v:Int) (w:World) (hs:s.size<=maxLen) (h:¬ MarkP (s,v)) :
  Calls Tryz.prog 166 #[.agg #[.string s,.int .i64 v]] w fun e w'=>e=.returned (.bool false)∧Below w.heap.size w w':=
 (ok_any s v w hs).mono fun e w' ⟨⟨r,he,hr⟩,hb⟩=>⟨by rw [he];cases r;rfl;exact absurd (hr.1 rfl) h,hb⟩
set_option maxHeartbeats 800000 in
theorem implStampOk_any (a:Option Addr) (cap:Nat) (l:List (ByteArray×Int)) (w:World) (hl:l.length<=maxLen) (hr:Row w a l) (hs:∀ j,(h:j < l.length)->l[j].1.size<=maxLen) :
  Calls Tryz.prog 126 #[.slice a l.length cap] w fun e w'=>IsB (StampP l) e∧Below w.heap.size w w':=by
 unfold maxLen at hl
 by_cases h12:12 < l.length
 ·go_enter Tryz.func126,Tryz.ntmps126
  go_wp2_with fail
  go_ret
  exact ⟨isB_false (fun h=>by have:=h.1;omega),Below.refl _ _⟩
 go_enter Tryz.func126,Tryz.ntmps126
 go_wp2_with fail
 go_loopw [10] (fun i wr=>∃ k:Nat,k<=l.length∧i=.int .i64 k∧StampTo l k∧Below w.heap.size w wr) (fun i _=>l.length - (intOf i).toNat)
 case atStart=>exact ⟨0,Nat.zero_le _,rfl,stampTo_zero l,Below.refl _ _⟩
 case round=>
  obtain ⟨k,hk,rfl,hall,hb⟩:=hrel
  by_cases hlt:k < l.length
  ·obtain ⟨b,o,rfl,hblt,c0,c1⟩:=hr k hlt
   have HS:=hs k hlt
   have HST:=stampTo_step hall hlt
   have e0:=cell_on hb hblt c0
   have e1:=cell_on hb hblt c1
   have g1:b < wr.heap.size:=Nat.lt_of_lt_of_le hblt hb.size
   have k0:(0:Int)<=(k:Int):=by omega
   have k1:(k:Int) < (l.length:Int):=by omega
   by_cases hm:MarkP l[k]
   ·by_cases hk0:k < 1
    ·have hd:decide (0 < k)=false:=by simp;omega
     go_wp2_with fail
     refine wp_region_lat (by kernel_rfl) (by kernel_rfl) ?_
     have hne:=Lat.some (wr.alloc (.cells #[.string l[k].1,.int .i64 l[k].2] 144))
     have q0:∀ n:Lat (wr.alloc (.cells #[.string l[k].1,.int .i64 l[k].2] 144)),n.w.cell? ⟨wr.heap.size,0,none⟩=some (.string l[k].1):=fun n=>n.cell (box_lt _ _) (box0 _ _ _ _)
     have q1:∀ n:Lat (wr.alloc (.cells #[.string l[k].1,.int .i64 l[k].2] 144)),n.w.cell? ⟨wr.heap.size,1,none⟩=some (.int .i64 l[k].2):=fun n=>n.cell (box_lt _ _) (box1 _ _ _ _)
     repeat (go_big_quiet_step ((go_at_call 166;exact Calls.lat_of (ok_yes _ _ _ HS hm))))
     refine wpQuiet_nil ?_
     rintro _ ⟨nq,rfl⟩
     go_wp2_with fail
     exact ⟨⟨k + 1,by omega,by go_num,HST hm (fun h=>by omega),lat_below hb nq⟩,by simp [intOf];omega⟩
    ·obtain ⟨b',o',he,_,d0,_⟩:=hr (k - 1) (by omega)
     obtain ⟨rfl,rfl⟩:b'=b∧o'=o:=by simp at he;exact ⟨he.1.symm,he.2.symm⟩
     have hd:decide (0 < k)=true:=by simp;omega
     have f0:=cell_on hb hblt d0
     go_wp2_with fail
     refine wp_region_lat (by kernel_rfl) (by kernel_rfl) ?_
     have hne:=Lat.some (wr.alloc (.cells #[.string l[k].1,.int .i64 l[k].2] 144))
     have q0:∀ n:Lat (wr.alloc (.cells #[.string l[k].1,.int .i64 l[k].2] 144)),n.w.cell? ⟨wr.heap.size,0,none⟩=some (.string l[k].1):=fun n=>n.cell (box_lt _ _) (box0 _ _ _ _)
     have q1:∀ n:Lat (wr.alloc (.cells #[.string l[k].1,.int .i64 l[k].2] 144)),n.w.cell? ⟨wr.heap.size,1,none⟩=some (.int .i64 l[k].2):=fun n=>n.cell (box_lt _ _) (box1 _ _ _ _)
     have q2:∀ n:Lat (wr.alloc (.cells #[.string l[k].1,.int .i64 l[k].2] 144)),n.w.cell? ⟨b',o' + (k - 1) * 2,none⟩=some (.string l[k - 1].1):=fun n=>n.cell (Nat.lt_trans g1 (box_lt _ _)) (by rw [box_old _ _ g1];exact f0)
     repeat (go_big_quiet_step ((go_at_call 166;exact Calls.lat_of (ok_yes _ _ _ HS hm))))
     refine wpQuiet_nil ?_
     rintro _ ⟨nq,rfl⟩
     go_wp2_with fail
     ·go_ret
      exact ⟨isB_false (fun h=>by have:=asc_at h hk0 hlt;unfold Asc at this;simp_all),lat_below hb nq⟩
     ·exact ⟨⟨k + 1,by omega,by go_num,HST hm (fun _=>by unfold Asc;simp_all),lat_below hb nq⟩,by simp [intOf];omega⟩
   ·go_wp2_with fail
    refine wp_region_lat (by kernel_rfl) (by kernel_rfl) ?_
    have hne:=Lat.some (wr.alloc (.cells #[.string l[k].1,.int .i64 l[k].2] 144))
    have q0:∀ n:Lat (wr.alloc (.cells #[.string l[k].1,.int .i64 l[k].2] 144)),n.w.cell? ⟨wr.heap.size,0,none⟩=some (.string l[k].1):=fun n=>n.cell (box_lt _ _) (box0 _ _ _ _)
    have q1:∀ n:Lat (wr.alloc (.cells #[.string l[k].1,.int .i64 l[k].2] 144)),n.w.cell? ⟨wr.heap.size,1,none⟩=some (.int .i64 l[k].2):=fun n=>n.cell (box_lt _ _) (box1 _ _ _ _)
    repeat (go_big_quiet_step ((go_at_call 166;exact Calls.lat_of (ok_no _ _ _ HS hm))))
    refine wpQuiet_nil ?_
    rintro _ ⟨nq,rfl⟩
    go_wp2_with fail
    go_ret
    exact ⟨isB_false (fun h=>hm (h.2.1 k hlt)),lat_below hb nq⟩
  ·go_wp2_with fail
   go_ret
   exact ⟨isB_true (stampP_of hall hlt (by omega)),hb⟩
set_option maxHeartbeats 400000 in
theorem l1Get_any (a:Option Addr) (cap:Nat) (l:List (ByteArray×Int)) (s:ByteArray) (w:World) (hl:l.length<=maxLen) (hr:Row w a l) :
  Calls Tryz.prog 124 #[.slice a l.length cap,.string s] w fun e w'=>e=.returned (.int .i64 (getM l s))∧w'=w:=by
 unfold maxLen at hl
 go_enter Tryz.func124,Tryz.ntmps124
 go_wp2_with fail
 go_loop [5] (fun i=>∃ k:Nat,k<=l.length∧i=.int .i64 k∧(∀ j,(h:j < l.length)->j < k->l[j].1≠s)) (fun i=>l.length - (intOf i).toNat)
 case atStart=>exact ⟨0,Nat.zero_le _,rfl,fun j _ h=>by omega⟩
 case round=>
  obtain ⟨k,hk,rfl,hall⟩:=hrel
  by_cases hlt:k < l.length
  ·obtain ⟨b,o,rfl,hblt,c0,c1⟩:=hr k hlt
   have HST:=ne_step hall hlt
   by_cases he:l[k].1=s
   ·have H:Hid (getM l s=l[k].2):=getM_at hlt hall he
    have hb:(l[k].1.toList == s.toList)=true:=toList_beq.2 he
    clear HST hall he
    go_wp2_with fail
    go_ret
    exact ⟨by rw [H.out];rfl,rfl⟩
   ·have hb:(l[k].1.toList == s.toList)=false:=toList_bne.2 he
    have HN:=HST he
    clear HST hall he
    go_wp2_with fail
    exact ⟨⟨k + 1,by omega,by go_num,HN⟩,by simp [intOf];omega⟩
  ·have H:Hid (getM l s=0):=getM_none fun j hj=>hall j hj (by omega)
   go_wp2_with fail
   go_ret
   exact ⟨by rw [H.out];rfl,rfl⟩
end Go.Proofs.YtpfhegengmlkmacGreatDoor
