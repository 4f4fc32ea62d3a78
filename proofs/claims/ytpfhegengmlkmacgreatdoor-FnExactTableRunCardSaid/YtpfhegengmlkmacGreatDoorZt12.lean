/- Texts of this claim. -/
import Derived.Lib.ItoaNum
import Derived.Lib.Join
import Derived.Test.YtpfhegengmlkmacGreatDoorZt10
namespace Go.Proofs.YtpfhegengmlkmacGreatDoor
def NBs (n:List UInt8):Prop:=∀ x∈n,NB (x.toNat:Int)
def DG (x:UInt8):Prop:=48<=x.toNat∧x.toNat<=57
def dnext (a:Nat) (x:UInt8):Nat:=10 * a + (x.toNat - 48)
def dval (a:Nat) (d:List UInt8):Nat:=d.foldl dnext a
def Dig (d:List UInt8) (v:Int):Prop:=d≠[]∧d.head?≠some 48∧(∀ x∈d,DG x)∧v=(dval 0 d:Nat)∧dval 0 d<=1099511627776
def Word (u:List UInt8) (m:ByteArray×Int):Prop:=∃ d,u=m.1.data.toList ++ 58 :: d∧NBs m.1.data.toList∧Dig d m.2
def Words:List (List UInt8)->List (ByteArray×Int)->Prop
 | [],[]=>True
 | u :: us,m :: ms=>Word u m∧Words us ms
 | [],_ :: _=>False
 | _ :: _,[]=>False
def splitL (c:UInt8):List UInt8->List (List UInt8)
 | []=>[[]]
 | x :: r=>if x=c then [] :: splitL c r else match splitL c r with
  | []=>[[x]]
  | h :: t=>(x :: h) :: t
theorem dval_nil (a:Nat):dval a []=a:=List.foldl_nil
theorem dval_cons (a:Nat) (x:UInt8) (r:List UInt8):dval a (x :: r)=dval (dnext a x) r:=List.foldl_cons ..
theorem dval_append (a:Nat) (d e:List UInt8):dval a (d ++ e)=dval (dval a d) e:=List.foldl_append
theorem dval_snoc (a:Nat) (d:List UInt8) (x:UInt8):dval a (d ++ [x])=10 * dval a d + (x.toNat - 48):=by
 rw [dval_append,dval_cons,dval_nil,dnext]
theorem dnext_le (a:Nat) (x:UInt8):10 * a<=dnext a x:=by unfold dnext;exact Nat.le_add_right _ _
theorem dval_mono:∀ (d:List UInt8) (a:Nat),a<=dval a d
 | [],a=>by rw [dval_nil];exact Nat.le_refl a
 | x :: r,a=>by rw [dval_cons];exact Nat.le_trans (by have:=dnext_le a x;omega) (dval_mono r (dnext a x))
theorem dval_pow:∀ (d:List UInt8) (a:Nat),a * 10 ^ d.length<=dval a d
 | [],a=>by rw [dval_nil];simp
 | x :: r,a=>by
  have h:=dval_pow r (dnext a x)
  have e:a * 10 ^ (x :: r).length=(10 * a) * 10 ^ r.length:=by rw [List.length_cons,Nat.pow_succ];simp [Nat.mul_comm,Nat.mul_assoc]
  rw [e,dval_cons]
  exact Nat.le_trans (Nat.mul_le_mul_right _ (dnext_le a x)) h
theorem dval_lt:∀ (d:List UInt8) (a:Nat),(∀ x∈d,DG x)->dval a d < (a + 1) * 10 ^ d.length
 | [],a,_=>by rw [dval_nil];simp
 | x :: r,a,h=>by
  have h1:=dval_lt r (dnext a x) (fun y hy=>h y (List.mem_cons_of_mem _ hy))
  have hx:=h x (List.mem_cons_self ..)
  have e:(a + 1) * 10 ^ (x :: r).length=(10 * (a + 1)) * 10 ^ r.length:=by rw [List.length_cons,Nat.pow_succ];simp [Nat.mul_comm,Nat.mul_assoc]
  rw [e,dval_cons]
  exact Nat.lt_of_lt_of_le h1 (Nat.mul_le_mul_right _ (by have:=hx.1;have:=hx.2;unfold dnext;omega))
theorem dval_head {x:UInt8} {r:List UInt8} (hx:DG x) (h0:x≠48):10 ^ r.length<=dval 0 (x :: r):=by
 have h1:1<=x.toNat - 48:=by
  have:x.toNat≠48:=fun e=>h0 (UInt8.toNat_inj.1 (by rw [e];rfl))
  have:=hx.1
  omega
 have h2:1<=dnext 0 x:=by unfold dnext;omega
 have h3:=dval_pow r (dnext 0 x)
 rw [dval_cons]
 exact Nat.le_trans (by have:=Nat.mul_le_mul_right (10 ^ r.length) h2;omega) h3
theorem Dig.pos {d:List UInt8} {v:Int} (h:Dig d v):1<=v:=by
 obtain ⟨h1,h2,h3,rfl,_⟩:=h
 cases d with
 | nil=>exact absurd rfl h1
 | cons x r=>
  have:=dval_head (r:=r) (h3 x (List.mem_cons_self ..)) (fun e=>h2 (by rw [e];rfl))
  have h0:=Nat.pow_pos (n:=r.length) (show 0 < 10 by omega)
  omega
theorem cut_one {c:UInt8}:∀ {n n' x x':List UInt8},n ++ c :: x=n' ++ c :: x'->c∉n->c∉n'->n=n'∧x=x'
 | [],[],x,x',h,_,_=>by simpa using h
 | [],y :: n',x,x',h,_,h2=>by
  simp only [List.nil_append,List.cons_append,List.cons.injEq] at h
  exact absurd (by rw [h.1];exact List.mem_cons_self ..) h2
 | y :: n,[],x,x',h,h1,_=>by
  simp only [List.nil_append,List.cons_append,List.cons.injEq] at h
  exact absurd (by rw [h.1];exact List.mem_cons_self ..) h1
 | y :: n,z :: n',x,x',h,h1,h2=>by
  simp only [List.cons_append,List.cons.injEq] at h
  obtain ⟨e1,e2⟩:=cut_one h.2 (fun k=>h1 (List.mem_cons_of_mem _ k)) (fun k=>h2 (List.mem_cons_of_mem _ k))
  exact ⟨by rw [h.1,e1],e2⟩
theorem run_one {p:UInt8->Prop}:∀ {d d' r r':List UInt8},d ++ r=d' ++ r'->(∀ x∈d,p x)->(∀ x∈d',p x)->(∀ x,r.head?=some x->¬ p x)->(∀ x,r'.head?=some x->¬ p x)->d=d'∧r=r'
 | [],[],r,r',h,_,_,_,_=>by simpa using h
 | [],y :: d',r,r',h,_,h2,h3,_=>by
  simp only [List.nil_append,List.cons_append] at h
  exact absurd (h2 y (List.mem_cons_self ..)) (h3 y (by rw [h];rfl))
 | y :: d,[],r,r',h,h1,_,_,h4=>by
  simp only [List.nil_append,List.cons_append] at h
  exact absurd (h1 y (List.mem_cons_self ..)) (h4 y (by rw [<- h];rfl))
 | y :: d,z :: d',r,r',h,h1,h2,h3,h4=>by
  simp only [List.cons_append,List.cons.injEq] at h
  obtain ⟨e1,e2⟩:=run_one h.2 (fun x k=>h1 x (List.mem_cons_of_mem _ k)) (fun x k=>h2 x (List.mem_cons_of_mem _ k)) h3 h4
  exact ⟨by rw [h.1,e1],e2⟩
theorem nbs_not {n:List UInt8} (h:NBs n) {c:UInt8} (hc:c=58∨c=32):c∉n:=fun k=>by
 have:=h c k
 unfold NB at this
 rcases hc with rfl | rfl <;> revert this <;> decide
theorem digs_not {n:List UInt8} (h:∀ x∈n,DG x) {c:UInt8} (hc:c=58∨c=32):c∉n:=fun k=>by
 have:=h c k
 unfold DG at this
 rcases hc with rfl | rfl <;> revert this <;> decide
theorem data_inj {s t:ByteArray} (h:s.data.toList=t.data.toList):s=t:=by
 cases s;cases t
 simpa using h
theorem Word.one {u:List UInt8} {m m':ByteArray×Int} (h:Word u m) (h':Word u m'):m=m':=by
 obtain ⟨d,rfl,h1,h2⟩:=h
 obtain ⟨d',e,h3,h4⟩:=h'
 obtain ⟨e1,rfl⟩:=cut_one e (nbs_not h1 (.inl rfl)) (nbs_not h3 (.inl rfl))
 exact Prod.ext (data_inj e1) (by rw [h2.2.2.2.1,h4.2.2.2.1])
theorem Words.one:∀ {us:List (List UInt8)} {ms ms':List (ByteArray×Int)},Words us ms->Words us ms'->ms=ms'
 | [],[],[],_,_=>rfl
 | u :: us,m :: ms,m' :: ms',h,h'=>by rw [h.1.one h'.1,Words.one h.2 h'.2]
 | [],_ :: _,_,h,_=>h.elim
 | [],[],_ :: _,_,h=>h.elim
 | _ :: _,[],_,h,_=>h.elim
 | _ :: _,_ :: _,[],_,h=>h.elim
theorem Words.length:∀ {us:List (List UInt8)} {ms:List (ByteArray×Int)},Words us ms->ms.length=us.length
 | [],[],_=>rfl
 | _ :: _,_ :: _,h=>by simp [Words.length h.2]
 | [],_ :: _,h=>h.elim
 | _ :: _,[],h=>h.elim
theorem Words.snoc:∀ {us:List (List UInt8)} {ms:List (ByteArray×Int)} {u:List UInt8} {m:ByteArray×Int},Words us ms->Word u m->Words (us ++ [u]) (ms ++ [m])
 | [],[],_,_,_,h=>⟨h,trivial⟩
 | _ :: _,_ :: _,_,_,h,k=>⟨h.1,Words.snoc h.2 k⟩
 | [],_ :: _,_,_,h,_=>h.elim
 | _ :: _,[],_,_,h,_=>h.elim
theorem Words.cut:∀ {us vs:List (List UInt8)} {ms:List (ByteArray×Int)},Words (us ++ vs) ms->∃ ms1 ms2,ms=ms1 ++ ms2∧Words us ms1∧Words vs ms2
 | [],vs,ms,h=>⟨[],ms,rfl,trivial,h⟩
 | _ :: _,_,[],h=>h.elim
 | u :: us,vs,m :: ms,h=>by
  obtain ⟨m1,m2,rfl,h1,h2⟩:=Words.cut h.2
  exact ⟨m :: m1,m2,rfl,⟨h.1,h1⟩,h2⟩
theorem splitL_cut {c:UInt8}:∀ {s r:List UInt8},c∉s->splitL c (s ++ c :: r)=s :: splitL c r
 | [],r,_=>by simp [splitL]
 | x :: s,r,h=>by
  have hx:x≠c:=fun e=>h (by rw [e];exact List.mem_cons_self ..)
  have ih:=splitL_cut (r:=r) (fun k=>h (List.mem_cons_of_mem x k))
  simp only [List.cons_append,splitL,if_neg hx,ih]
theorem splitL_no {c:UInt8}:∀ {s:List UInt8},c∉s->splitL c s=[s]
 | [],_=>rfl
 | x :: s,h=>by
  have hx:x≠c:=fun e=>h (by rw [e];exact List.mem_cons_self ..)
  have ih:=splitL_no (fun k=>h (List.mem_cons_of_mem x k))
  simp only [splitL,if_neg hx,ih]
theorem splitL_two {c:UInt8} (s:List UInt8):(c∉s)∨∃ a r,s=a ++ c :: r∧c∉a:=by
 induction s with
 | nil=>exact .inl (by simp)
 | cons x s ih=>
  by_cases hx:x=c
  ·exact .inr ⟨[],s,by rw [hx];rfl,by simp⟩
  ·rcases ih with h | ⟨a,r,rfl,h⟩
   ·exact .inl (by simp [h,Ne.symm hx])
   ·exact .inr ⟨x :: a,r,rfl,by simp [h,Ne.symm hx]⟩
theorem splitL_free {c:UInt8}:∀ (n:Nat) (s:List UInt8),s.length<=n->∀ w∈splitL c s,c∉w:=by
 intro n
 induction n with
 | zero=>
  intro s hs w hw
  obtain rfl:=List.length_eq_zero_iff.1 (Nat.le_zero.1 hs)
  simp [splitL] at hw
  rw [hw];simp
 | succ n ih=>
  intro s hs w hw
  rcases splitL_two (c:=c) s with h | ⟨a,r,rfl,h⟩
  ·rw [splitL_no h] at hw
   rw [List.mem_singleton.1 hw];exact h
  ·rw [splitL_cut h] at hw
   rcases List.mem_cons.1 hw with rfl | hw
   ·exact h
   ·exact ih r (by simp at hs;omega) w hw
theorem splitL_pair {c:UInt8} {s p q:List UInt8} (h:splitL c s=[p,q]):s=p ++ c :: q∧c∉p∧c∉q:=by
 rcases splitL_two (c:=c) s with h1 | ⟨a,r,rfl,h1⟩
 ·rw [splitL_no h1] at h;simp at h
 ·rw [splitL_cut h1] at h
  simp only [List.cons.injEq] at h
  obtain ⟨rfl,h⟩:=h
  rcases splitL_two (c:=c) r with h2 | ⟨a',r',rfl,h2⟩
  ·rw [splitL_no h2] at h
   simp only [List.cons.injEq,and_true] at h
   obtain rfl:=h
   exact ⟨rfl,h1,h2⟩
  ·rw [splitL_cut h2] at h
   simp only [List.cons.injEq] at h
   rcases splitL_two (c:=c) r' with h3 | ⟨a3,r3,rfl,h3⟩
   ·rw [splitL_no h3] at h;simp at h
   ·rw [splitL_cut h3] at h;simp at h
theorem Word.split {u:List UInt8} {m:ByteArray×Int} (h:Word u m):∃ d,splitL 58 u=[m.1.data.toList,d]∧Dig d m.2:=by
 obtain ⟨d,rfl,h1,h2⟩:=h
 exact ⟨d,by rw [splitL_cut (nbs_not h1 (.inl rfl)),splitL_no (digs_not h2.2.2.1 (.inl rfl))],h2⟩
theorem Word.free {u:List UInt8} {m:ByteArray×Int} (h:Word u m):(32:UInt8)∉u:=by
 obtain ⟨d,rfl,h1,h2⟩:=h
 have k1:=nbs_not h1 (c:=32) (.inr rfl)
 have k2:=digs_not h2.2.2.1 (c:=32) (.inr rfl)
 simp only [List.mem_append,List.mem_cons,not_or]
 exact ⟨k1,by decide,k2⟩
def Acc (t:ByteArray) (m:List (ByteArray×Int)):Prop:=t.size<=400∧((t.data.toList=[45]∧m=[])∨(Words (splitL 32 t.data.toList) m∧StampP m))
def IsR (t:ByteArray) (m:List (ByteArray×Int)) (ok:Bool):Prop:=(ok=true∧Acc t m)∨(ok=false∧m=[]∧∀ m',¬ Acc t m')
theorem dash_no {m:List (ByteArray×Int)} (h:Words (splitL 32 [45]) m):False:=by
 have e:splitL 32 [45]=[[45]]:=by decide
 rw [e] at h
 match m,h with
 | [],h=>exact h
 | x :: r,h=>
  obtain ⟨d,e,h1,h2⟩:=h.1
  have hl:=congrArg List.length e
  simp at hl
  have:=List.length_pos_iff.2 h2.1
  omega
def wordB (m:ByteArray×Int):List UInt8:=m.1.data.toList ++ 58 :: Lib.decDigits m.2.toNat
def textB (l:List (ByteArray×Int)):List UInt8:=Lib.join (l.map wordB) [32]
def IsTx (l:List (ByteArray×Int)) (s:ByteArray):Prop:=(StampP l->s.data.toList=if l=[] then [45] else textB l)∧(¬ StampP l->s.data.toList=[])
theorem data_eq {s t:ByteArray} (h:s.data.toList=t.data.toList):s=t:=by
 cases s;cases t
 simpa using h
theorem IsTx.one {l:List (ByteArray×Int)} {s t:ByteArray} (h:IsTx l s) (k:IsTx l t):s=t:=by
 by_cases hp:StampP l
 ·exact data_eq ((h.1 hp).trans (k.1 hp).symm)
 ·exact data_eq ((h.2 hp).trans (k.2 hp).symm)
theorem joinB_snoc (xs:List (List UInt8)) (x sep:List UInt8) (h:xs≠[]):Lib.join (xs ++ [x]) sep=Lib.join xs sep ++ (sep ++ x):=by
 cases xs with
 | nil=>exact absurd rfl h
 | cons y r=>
  rw [List.cons_append,Lib.join_cons,Lib.join_cons]
  simp [Lib.joinTail]
theorem decDigits_small {u:Nat} (h:u < 10):Lib.decDigits u=[UInt8.ofNat (48 + u)]:=by rw [Lib.decDigits,dif_pos h]
theorem decDigits_step {u:Nat} (h:¬ u < 10):Lib.decDigits u=Lib.decDigits (u / 10) ++ [UInt8.ofNat (48 + u % 10)]:=by rw [Lib.decDigits,dif_neg h]
theorem decDigits_len:∀ (n u:Nat),u<=n->(Lib.decDigits u).length<=u + 1:=by
 intro n
 induction n with
 | zero=>intro u hu;rw [decDigits_small (by omega)];simp
 | succ n ih=>
  intro u hu
  by_cases h:u < 10
  ·rw [decDigits_small h];simp
  ·rw [decDigits_step h,List.length_append,List.length_singleton]
   have:=ih (u / 10) (by omega)
   omega
def DecI (k q:Nat) (s:List UInt8):Prop:=(q=0->s=Lib.decDigits k)∧(0 < q->Lib.decDigits k=Lib.decDigits q ++ s)
theorem decI_start {k:Nat} (h:0 < k):DecI k k []:=⟨fun e=>by omega,fun _=>by simp⟩
theorem decI_step {k q:Nat} {s:List UInt8} (hq:0 < q) (h:DecI k q s):DecI k (q / 10) (UInt8.ofNat (48 + q % 10) :: s):=by
 have h2:=h.2 hq
 refine ⟨fun e=>?_,fun e=>?_⟩
 ·have hl:q < 10:=by omega
  rw [h2,decDigits_small hl,show q % 10=q by omega];rfl
 ·rw [h2,decDigits_step (by omega:¬ q < 10),List.append_assoc];rfl
theorem wordB_len {m:ByteArray×Int} (h:MarkP m):(wordB m).length<=1099511627786:=by
 unfold wordB
 rw [List.length_append,List.length_cons]
 have h1:=decDigits_len _ m.2.toNat (Nat.le_refl _)
 have h2:=h.2.2
 have h3:=h.1.2.1
 have h4:m.1.data.toList.length=m.1.size:=Array.length_toList
 omega
theorem textB_snoc {l:List (ByteArray×Int)} {k:Nat} (hk:k < l.length) (h0:0 < k):textB (l.take (k + 1))=textB (l.take k) ++ (32 :: wordB l[k]):=by
 unfold textB
 rw [List.take_succ_eq_append_getElem hk,List.map_append,List.map_singleton,joinB_snoc _ _ _ (by
  intro e
  have:=congrArg List.length e
  simp at this
  rcases this with h | h
  ·omega
  ·subst h;simp at hk)]
 rfl
theorem textB_first {l:List (ByteArray×Int)} (hk:0 < l.length):textB (l.take 1)=wordB l[0]:=by
 unfold textB
 rw [List.take_succ_eq_append_getElem hk,List.take_zero,List.nil_append,List.map_singleton,Lib.join_one]
theorem textB_len {l:List (ByteArray×Int)} (h:∀ j,(hj:j < l.length)->MarkP l[j]):∀ k,k<=l.length->(textB (l.take k)).length<=k * 1099511627787:=by
 intro k
 induction k with
 | zero=>intro _;simp [textB,Lib.join_nil]
 | succ k ih=>
  intro hk
  have h1:=wordB_len (h k (by omega))
  by_cases h0:0 < k
  ·rw [textB_snoc (by omega) h0,List.length_append,List.length_cons]
   have:=ih (by omega)
   omega
  ·obtain rfl:k=0:=by omega
   rw [textB_first (by omega)]
   omega
end Go.Proofs.YtpfhegengmlkmacGreatDoor
namespace Go.Proofs.YtpfhegengmlkmacGreatDoor
set_option maxRecDepth 100000
theorem digs_dec:∀ (n:Nat) (d:List UInt8),d.length<=n->d≠[]->d.head?≠some 48->(∀ x∈d,DG x)->Lib.decDigits (dval 0 d)=d:=by
 intro n
 induction n with
 | zero=>intro d hd hne _ _;exact absurd (List.length_eq_zero_iff.1 (Nat.le_zero.1 hd)) hne
 | succ n ih=>
  intro d hd hne h48 hall
  rcases List.eq_nil_or_concat d with rfl | ⟨d',x,rfl⟩
  ·exact absurd rfl hne
  have hx:DG x:=hall x (by simp)
  have ex:UInt8.ofNat (48 + (x.toNat - 48))=x:=by
   rw [show 48 + (x.toNat - 48)=x.toNat by have:=hx.1;omega]
   exact UInt8.ofNat_toNat
  rw [List.concat_eq_append] at *
  rw [dval_snoc]
  by_cases hd':d'=[]
  ·subst hd'
   rw [dval_nil,decDigits_small (by have:=hx.2;omega),Nat.mul_zero,Nat.zero_add,ex]
   rfl
  ·have hh:d'.head?≠some 48:=fun e=>h48 (by
    cases d' with
    | nil=>exact absurd rfl hd'
    | cons y r=>simpa using e)
   have hall':∀ y∈d',DG y:=fun y hy=>hall y (List.mem_append_left _ hy)
   have ihd:=ih d' (by simp at hd;omega) hd' hh hall'
   have hpos:1<=dval 0 d':=by
    cases d' with
    | nil=>exact absurd rfl hd'
    | cons y r=>
     have h1:=dval_head (r:=r) (hall' y (List.mem_cons_self ..)) (fun e=>hh (by rw [e];rfl))
     have h2:=Nat.pow_pos (n:=r.length) (show 0 < 10 by omega)
     omega
   have h9:x.toNat - 48 < 10:=by have:=hx.2;omega
   rw [decDigits_step (by omega),show (10 * dval 0 d' + (x.toNat - 48)) / 10=dval 0 d' by omega,show (10 * dval 0 d' + (x.toNat - 48)) % 10=x.toNat - 48 by omega,ihd,ex]
theorem dec_digs:∀ (n u:Nat),u<=n->1<=u->Lib.decDigits u≠[]∧(Lib.decDigits u).head?≠some 48∧(∀ x∈Lib.decDigits u,DG x)∧dval 0 (Lib.decDigits u)=u:=by
 have hone:∀ r,r < 10->DG (UInt8.ofNat (48 + r))∧(UInt8.ofNat (48 + r)).toNat - 48=r∧(1<=r->UInt8.ofNat (48 + r)≠48):=by
  intro r hr
  have e:(UInt8.ofNat (48 + r)).toNat=48 + r:=by rw [UInt8.toNat_ofNat'];omega
  refine ⟨⟨by omega,by omega⟩,by omega,fun h1 h=>?_⟩
  have:=congrArg UInt8.toNat h
  rw [e] at this
  have h48:(48:UInt8).toNat=48:=rfl
  omega
 intro n
 induction n with
 | zero=>intro u h1 h2;omega
 | succ n ih=>
  intro u hu h1
  by_cases h:u < 10
  ·rw [decDigits_small h]
   obtain ⟨k1,k2,k3⟩:=hone u h
   refine ⟨by simp,by simpa using k3 h1,fun x hx=>by rw [List.mem_singleton.1 hx];exact k1, ?_⟩
   rw [show [UInt8.ofNat (48 + u)]=[] ++ [UInt8.ofNat (48 + u)] from rfl,dval_snoc,dval_nil,k2]
   omega
  ·rw [decDigits_step h]
   obtain ⟨j1,j2,j3,j4⟩:=ih (u / 10) (by omega) (by omega)
   obtain ⟨k1,k2,_⟩:=hone (u % 10) (by omega)
   refine ⟨by simp, ?_,fun x hx=>?_, ?_⟩
   ·cases hd:Lib.decDigits (u / 10) with
    | nil=>exact absurd hd j1
    | cons y r=>rw [hd] at j2;simpa using j2
   ·rcases List.mem_append.1 hx with hx | hx
    ·exact j3 x hx
    ·rw [List.mem_singleton.1 hx];exact k1
   ·rw [dval_snoc,j4,k2]
    omega
theorem dec_len:∀ (n u:Nat),1<=n->u < 10 ^ n->(Lib.decDigits u).length<=n:=by
 intro n
 induction n with
 | zero=>intro u h;omega
 | succ n ih=>
  intro u _ hu
  by_cases h:u < 10
  ·rw [decDigits_small h];simp
  ·rw [decDigits_step h,List.length_append,List.length_singleton]
   have hn:1<=n:=by
    rcases Nat.eq_zero_or_pos n with rfl | h'
    ·simp at hu;omega
    ·exact h'
   have:=ih (u / 10) hn (by rw [Nat.pow_succ] at hu;omega)
   omega
theorem dig_iff {d:List UInt8} {v:Int} (h:Dig d v):d=Lib.decDigits v.toNat:=by
 have e:v.toNat=dval 0 d:=by rw [h.2.2.2.1];rfl
 rw [e,digs_dec _ d (Nat.le_refl _) h.1 h.2.1 h.2.2.1]
theorem of_word {u:List UInt8} {m:ByteArray×Int} (h:Word u m):u=wordB m:=by
 obtain ⟨d,rfl,_,hd⟩:=h
 unfold wordB
 rw [<- dig_iff hd]
theorem split_join:∀ (ws:List (List UInt8)),ws≠[]->(∀ w∈ws,(32:UInt8)∉w)->splitL 32 (Lib.join ws [32])=ws
 | [],h,_=>absurd rfl h
 | [x],_,h=>by rw [Lib.join_one];exact splitL_no (h x (List.mem_cons_self ..))
 | x :: y :: r,_,h=>by
  have e:Lib.join (x :: y :: r) [32]=x ++ 32 :: Lib.join (y :: r) [32]:=by
   rw [Lib.join_cons,Lib.join_cons]
   simp [Lib.joinTail]
  rw [e,splitL_cut (h x (List.mem_cons_self ..)),split_join (y :: r) (by simp) (fun w hw=>h w (List.mem_cons_of_mem _ hw))]
theorem of_words:∀ {us:List (List UInt8)} {l:List (ByteArray×Int)},Words us l->us=l.map wordB
 | [],[],_=>rfl
 | u :: us,m :: ms,h=>by rw [of_word h.1,of_words h.2];rfl
 | [],_ :: _,h=>h.elim
 | _ :: _,[],h=>h.elim
theorem wordB_short {m:ByteArray×Int} (h:MarkP m):(wordB m).length<=22:=by
 unfold wordB
 rw [List.length_append,List.length_cons,show m.1.data.toList.length=m.1.size from Array.length_toList]
 have h1:=h.1.2.1
 have h2:=dec_len 13 m.2.toNat (by omega) (by have:=h.2.2;omega)
 omega
theorem textB_short {l:List (ByteArray×Int)} (h:∀ j,(hj:j < l.length)->MarkP l[j]):∀ k,k<=l.length->(textB (l.take k)).length<=k * 23:=by
 intro k
 induction k with
 | zero=>intro _;simp [textB,Lib.join_nil]
 | succ k ih=>
  intro hk
  have h1:=wordB_short (h k (by omega))
  by_cases h0:0 < k
  ·rw [textB_snoc (by omega) h0,List.length_append,List.length_cons]
   have:=ih (by omega)
   omega
  ·obtain rfl:k=0:=by omega
   rw [textB_first (by omega)]
   omega
theorem isTx_size {l:List (ByteArray×Int)} {s:ByteArray} (h:IsTx l s):s.size<=276:=by
 rw [show s.size=s.data.toList.length from Array.length_toList.symm]
 by_cases hp:StampP l
 ·rw [h.1 hp]
  by_cases h0:l=[]
  ·rw [if_pos h0];simp
  ·rw [if_neg h0]
   have:=textB_short hp.2.1 l.length (Nat.le_refl _)
   rw [List.take_of_length_le (Nat.le_refl _)] at this
   have:=hp.1
   omega
 ·rw [h.2 hp];simp
end Go.Proofs.YtpfhegengmlkmacGreatDoor
namespace Go.Proofs.YtpfhegengmlkmacGreatDoor
open Go.RowKit
theorem Own.setOther {w:World} {b:Nat} {l:List (ByteArray×Int)} (h:Own w b l) {q:Nat} (hq:b≠q) (i:Nat) (v:Value):Own (w.setCell ⟨q,i,none⟩ v) b l:=by
 obtain ⟨m,f,h,hf⟩:=h
 exact ⟨m,f,h.of_block (Below.heap_setCell _ _ _ _ (by simp only;omega)),hf⟩
def PartI (w:World) (lo T g:Nat) (l:List ItemL) (k:Nat):Prop:=
 ∃ (G C:Nat->Nat) (m:Nat) (f:Nat->Value),w.rowIs g 44 m f∧l.length * 2<=m ∧
  (∀ j,(h:j < l.length)->j < k->f (j * 2)=.int .i64 l[j].1∧f (j * 2 + 1)=.slice (some ⟨G j,0,none⟩) l[j].2.length (C j)∧l[j].2.length<=C j∧Own w (G j) l[j].2∧lo<=G j∧G j < T∧G j≠g)∧∀ i j,i < k->j < k->i≠j->G i≠G j
theorem PartI.lt {w:World} {lo T g k:Nat} {l:List ItemL} (h:PartI w lo T g l k):g < w.heap.size:=by
 obtain ⟨_,_,_,_,h,_⟩:=h
 exact h.lt
theorem PartI.below {w w':World} {lo T g k:Nat} {l:List ItemL} (h:PartI w lo T g l k) (hb:Below w.heap.size w w'):PartI w' lo T g l k:=by
 have hlt:=h.lt
 obtain ⟨G,C,m,f,h,hm,hf,hd⟩:=h
 refine ⟨G,C,m,f,h.of_block (hb.block g hlt),hm,fun j hj hk=>?_,hd⟩
 obtain ⟨h1,h2,h3,h4,h5⟩:=hf j hj hk
 exact ⟨h1,h2,h3,h4.below hb,h5⟩
theorem PartI.row {w:World} {lo T g:Nat} {l:List ItemL} (h:PartI w lo T g l l.length):RowI w (some ⟨g,0,none⟩) l:=fun k hk=>by
 obtain ⟨G,C,m,f,h,hm,hf,_⟩:=h
 obtain ⟨h1,h2,h3,h4,_⟩:=hf k hk hk
 refine ⟨g,0,rfl,h.lt,by rw [Nat.zero_add,h.cell (by omega),h1],_,by rw [Nat.zero_add,h.cell (by omega),h2],_,_,rfl,h3,h4.row⟩
theorem Tryz.infoI:(Tryz.prog.info? 44).map (fun i=>(i.zero,i.size,i.bytes))=some (some (.agg #[.int .i64 0,.slice none 0 0]),2,32):=by kernel_rfl
end Go.Proofs.YtpfhegengmlkmacGreatDoor
namespace Go.Proofs.YtpfhegengmlkmacGreatDoor
open Go.RowKit Go.BigFrame
theorem Tryz.infoZ:(Tryz.prog.info? 3).map (fun i=>(i.zero,i.size,i.bytes))=some (some (.int .i64 0),1,8):=by kernel_rfl
theorem Tryz.infoW:(Tryz.prog.info? 78).map (fun i=>(i.zero,i.size,i.bytes))=some (some (.slice none 0 0),1,24):=by kernel_rfl
def FitS (l:List ByteArray):Prop:=l.length<=maxLen∧∀ j,(h:j < l.length)->l[j].size<=maxLen
structure GatL where
 ins:List ByteArray
 wins:List (List ItemL)
 shown:List (ByteArray×Int)
structure FitG (g:GatL):Prop where
 ins:FitS g.ins
 wins:FitW g.wins
 shown:FitM g.shown
def InsP (l:List ByteArray):Prop:=1<=l.length∧l.length<=6∧∀ i,(h:i < l.length)->NameP l[i]∧∀ k,(hk:k < i)->l[k]≠l[i]
def InsTo (l:List ByteArray) (n:Nat):Prop:=∀ i,(h:i < l.length)->i < n->NameP l[i]∧∀ k,(hk:k < i)->l[k]≠l[i]
theorem insTo_step {l:List ByteArray} {n:Nat} (h:InsTo l n) (hn:n < l.length) (h1:NameP l[n]) (h2:∀ k,(hk:k < n)->l[k]≠l[n]):InsTo l (n + 1):=fun i hi hlt=>by
 by_cases e:i=n
 ·subst e;exact ⟨h1,h2⟩
 ·exact h i hi (by omega)
theorem RowS.take {w:World} {b o:Nat} {l:List ByteArray} (h:RowS w (some ⟨b,o,none⟩) l) (k:Nat):RowS w (some ⟨b,o,none⟩) (l.take k):=fun j hj=>by
 rw [List.length_take] at hj
 obtain ⟨b',o',e,h1,h2⟩:=h j (by omega)
 exact ⟨b',o',e,h1,by rw [List.getElem_take];exact h2⟩
set_option maxHeartbeats 800000 in
theorem insOk_any (a:Option Addr) (cap:Nat) (l:List ByteArray) (w:World) (hl:l.length<=1048576) (hc:l.length<=cap) (hc2:cap<=maxLen) (hr:RowS w a l) (hs:∀ j,(h:j < l.length)->l[j].size<=maxLen) :
  Calls Tryz.prog 105 #[.slice a l.length cap] w fun e w'=>IsB (InsP l) e∧w'=w:=by
 unfold maxLen at hc2
 by_cases h1:l.length < 1
 ·go_enter Tryz.func105,Tryz.ntmps105
  go_wp2_with fail
  go_ret
  exact ⟨isB_false (fun h=>by have:=h.1;omega),rfl⟩
 by_cases h6:6 < l.length
 ·go_enter Tryz.func105,Tryz.ntmps105
  go_wp2_with fail
  go_ret
  exact ⟨isB_false (fun h=>by have:=h.2.1;omega),rfl⟩
 go_enter Tryz.func105,Tryz.ntmps105
 go_wp2_with fail
 go_loopw [15] (fun i wr=>∃ k:Nat,k<=l.length∧i=.int .i64 k∧Hid (InsTo l k)∧wr=w) (fun i _=>l.length - (intOf i).toNat)
 case atStart=>exact ⟨0,Nat.zero_le _,rfl,fun _ _ h=>absurd h (Nat.not_lt_zero _),rfl⟩
 case round=>
  obtain ⟨k,hk,rfl,HI,rfl⟩:=hrel
  by_cases hlt:k < l.length
  ·obtain ⟨b,o,rfl,hblt,c0⟩:=hr k hlt
   have k0:(0:Int)<=(k:Int):=by omega
   have k1:(k:Int) < (l.length:Int):=by omega
   have HS:=hs k hlt
   have HT:Hid (∀ u:World,u=wr->Calls Tryz.prog 147 #[.slice (some ⟨b,o,none⟩) k cap,.string l[k]] u fun e w'=>e=.returned (.bool (amongB (l.take k) l[k]))∧w'=u):=fun u hu=>by
    have h:=contains_any (some ⟨b,o,none⟩) cap (l.take k) l[k] u (by rw [List.length_take];omega) (hu ▸ hr.take k)
    rwa [List.length_take,Nat.min_eq_left (by omega)] at h
   go_wp2_with fail
   refine (nameOk_any l[k] _ HS).mono ?_
   rintro e w1 ⟨⟨r,rfl,hr1⟩,rfl⟩
   have HR:Hid (r=true↔NameP l[k]):=hr1
   clear hr1
   cases r with
   | false=>
    have HN:Hid (¬ InsP l):=fun h=>by have h3:=(h.2.2 k hlt).1;have:=HR.out.2 h3;simp at this
    go_wp2_with fail
    go_ret
    exact ⟨isB_false HN.out,rfl⟩
   | true=>
    have HP:Hid (NameP l[k]):=HR.out.1 rfl
    go_wp2_with fail
    refine (HT.out _ rfl).mono ?_
    rintro e w1 ⟨rfl,rfl⟩
    cases hq:amongB (l.take k) l[k] with
    | false=>
     have HST:Hid (InsTo l (k + 1)):=insTo_step HI.out hlt HP.out (fun j hj he=>by
      have:=(among_iff (names:=l.take k) (s:=l[k])).2 ⟨j,by rw [List.length_take];omega,by rw [List.getElem_take];exact he⟩
      rw [hq] at this
      cases this)
     go_wp2_with fail
     exact ⟨⟨k + 1,by omega,by go_num,HST,by trivial⟩,by simp [intOf];omega⟩
    | true=>
     have HN:Hid (¬ InsP l):=fun h=>by
      obtain ⟨j,hj,he⟩:=among_iff.1 hq
      rw [List.length_take] at hj
      rw [List.getElem_take] at he
      exact (h.2.2 k hlt).2 j (by omega) he
     go_wp2_with fail
     go_ret
     exact ⟨isB_false HN.out,rfl⟩
  ·have HF:Hid (InsP l):=⟨by omega,by omega,fun i hi=>HI.out i hi (by omega)⟩
   go_wp2_with fail
   go_ret
   exact ⟨isB_true HF.out,rfl⟩
set_option maxHeartbeats 800000 in
theorem l4Ins_any (a:Option Addr) (cap:Nat) (l:List ByteArray) (w:World) (hl:l.length<=1048576) (hr:RowS w a l) (hs:∀ j,(h:j < l.length)->l[j].size<=maxLen) :
  Calls Tryz.prog 77 #[.slice a l.length cap] w fun e w'=>IsB (InsP l) e∧Below w.heap.size w w':=by
 by_cases h1:l.length < 1
 ·go_enter Tryz.func77,Tryz.ntmps77
  go_wp2_with fail
  go_ret
  exact ⟨isB_false (fun h=>by have:=h.1;omega),Below.refl _ _⟩
 by_cases h6:6 < l.length
 ·go_enter Tryz.func77,Tryz.ntmps77
  go_wp2_with fail
  go_ret
  exact ⟨isB_false (fun h=>by have:=h.2.1;omega),Below.refl _ _⟩
 go_enter Tryz.func77,Tryz.ntmps77
 go_wp2_with fail
 go_loopw [3] (fun i wr=>∃ k:Nat,k<=l.length∧i=.int .i64 k∧Hid (InsTo l k)∧Below w.heap.size w wr) (fun i _=>l.length - (intOf i).toNat)
 case atStart=>exact ⟨0,Nat.zero_le _,rfl,fun _ _ h=>absurd h (Nat.not_lt_zero _),Below.refl _ _⟩
 case round=>
  obtain ⟨k,hk,rfl,HI,hbl⟩:=hrel
  by_cases hlt:k < l.length
  ·obtain ⟨b,o,rfl,hblt,c0⟩:=hr.below hbl k hlt
   have k0:(0:Int)<=(k:Int):=by omega
   have k1:(k:Int) < (l.length:Int):=by omega
   have HS:=hs k hlt
   go_wp2_with fail
   refine (l1Name_any l[k] _ HS).mono ?_
   rintro e w1 ⟨⟨r,rfl,hr1⟩,rfl⟩
   have HR:Hid (r=true↔NameP l[k]):=hr1
   clear hr1
   cases r with
   | false=>
    have HN:Hid (¬ InsP l):=fun h=>by have h3:=(h.2.2 k hlt).1;have:=HR.out.2 h3;simp at this
    go_wp2_with fail
    go_ret
    exact ⟨isB_false HN.out,hbl⟩
   | true=>
    have HP:Hid (NameP l[k]):=HR.out.1 rfl
    clear HR
    go_wp2_with fail
    go_loopw [4] (fun i2 wr2=>∃ j:Nat,j<=k∧i2=.int .i64 j∧Hid (∀ q,(hq:q < j)->(hl:q < l.length)->l[q]≠l[k])∧Below w.heap.size w wr2) (fun i2 _=>k - (intOf i2).toNat)
    case atStart=>exact ⟨0,Nat.zero_le _,rfl,fun _ h=>absurd h (Nat.not_lt_zero _),hbl⟩
    case round=>
     obtain ⟨j,hj,rfl,HJ,hbl2⟩:=hrel
     by_cases hjlt:j < k
     ·have hjl:j < l.length:=by omega
      obtain ⟨b1,o1,e1,hb1,c1⟩:=hr.below hbl2 j hjl
      obtain ⟨b2,o2,e2,hb2,c2⟩:=hr.below hbl2 k hlt
      cases e1
      cases e2
      have j0:(0:Int)<=(j:Int):=by omega
      have j1:(j:Int) < (l.length:Int):=by omega
      by_cases he:l[j]=l[k]
      ·have hb':(l[j].toList == l[k].toList)=true:=toList_beq.2 he
       have HN:Hid (¬ InsP l):=fun h=>(h.2.2 k hlt).2 j hjlt he
       go_wp2_with fail
       go_quiet (fail)
       go_wp2_with fail
       go_ret
       exact ⟨isB_false HN.out,below_drewN hbl2 _⟩
      ·have hb':(l[j].toList == l[k].toList)=false:=toList_bne.2 he
       have HJ2:Hid (∀ q,(hq:q < j + 1)->(hl:q < l.length)->l[q]≠l[k]):=fun q hq hl=>by
        by_cases e:q=j
        ·subst e;exact he
        ·exact HJ.out q (by omega) hl
       go_wp2_with fail
       go_quiet (fail)
       go_wp2_with fail
       exact ⟨⟨j + 1,by omega,by go_num,HJ2,below_drewN hbl2 _⟩,by simp [intOf];omega⟩
     ·have HST:Hid (InsTo l (k + 1)):=insTo_step HI.out hlt HP.out (fun q hq=>HJ.out q (by omega) (by omega))
      go_wp2_with fail
      exact ⟨⟨k + 1,by omega,by go_num,HST,hbl2⟩,by simp [intOf];omega⟩
  ·have HF:Hid (InsP l):=⟨by omega,by omega,fun i hi=>HI.out i hi (by omega)⟩
   go_wp2_with fail
   go_ret
   exact ⟨isB_true HF.out,hbl⟩
end Go.Proofs.YtpfhegengmlkmacGreatDoor
namespace Go.Proofs.YtpfhegengmlkmacGreatDoor
open Go.RowKit Go.BigFrame
set_option maxRecDepth 100000
set_option maxHeartbeats 800000 in
theorem implWinOk_any (a:Option Addr) (cap:Nat) (l:List ItemL) (w:World) (hf:FitI l) (hr:RowI w a l) :
  Calls Tryz.prog 125 #[.slice a l.length cap] w fun e w'=>IsB (WinP l) e∧Below w.heap.size w w':=by
 go_enter Tryz.func125,Tryz.ntmps125
 go_wp2_with fail
 refine (readWindow_any a cap l _ hf hr).mono ?_
 rintro e w1 ⟨hE,b1⟩
 rcases hE with ⟨v,rfl,hp,hv⟩ | ⟨v,rfl,hp,hv⟩
 ·have HP:Hid (WinP l):=hp
  clear hp
  obtain ⟨x0,x1,x2,x3,a0,a1,a2,a3,n0,n1,n2,n3,c0,c1,c2,c3,rfl,_⟩:=hv.laid
  go_wp2_with fail
  go_ret
  exact ⟨isB_true HP.out,b1.alloc b1.size _⟩
 ·have HP:Hid (¬ WinP l):=hp
  clear hp
  obtain ⟨x0,x1,x2,x3,a0,a1,a2,a3,n0,n1,n2,n3,c0,c1,c2,c3,rfl,_⟩:=hv.laid
  go_wp2_with fail
  go_ret
  exact ⟨isB_false HP.out,b1.alloc b1.size _⟩
end Go.Proofs.YtpfhegengmlkmacGreatDoor
