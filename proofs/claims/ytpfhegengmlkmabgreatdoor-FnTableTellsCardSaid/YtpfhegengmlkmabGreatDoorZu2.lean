/- Texts of this claim. -/
import Derived.Test.YtpfhegengmlkmabGreatDoorZu1
namespace Go.Proofs.YtpfhegengmlkmabGreatDoor
def CZ (n:List UInt8):Prop:=∀x∈n,NB (x.toNat:Int)
def DG (x:UInt8):Prop:=48<=x.toNat/\x.toNat<=57
def jG (a:Nat)(x:UInt8):Nat:=10*a+(x.toNat-48)
def aY (a:Nat)(d:List UInt8):Nat:=d.foldl jG a
def Au (d:List UInt8)(v:Int):Prop:=d≠[]/\d.head?≠some 48/\(∀x∈d,DG x)/\v=(aY 0 d:Nat)/\aY 0 d<=1099511627776
def Word (u:List UInt8)(m:ByteArray×Int):Prop:=∃d,u=m.1.data.toList++58::d/\CZ m.1.data.toList/\Au d m.2
def Words:List (List UInt8)->List (ByteArray×Int)->Prop
 |[],[]=>True
 |u::us,m::ms=>Word u m/\Words us ms
 |[],_::_=>False
 |_::_,[]=>False
def aj (c:UInt8):List UInt8->List (List UInt8)
 |[]=>[[]]
 |x::r=>if x=c then[]::aj c r else match aj c r with
  |[]=>[[x]]
  |h::t=>(x::h)::t
theorem iT (a:Nat):aY a []=a:=List.foldl_nil
theorem jP (a:Nat)(x:UInt8)(r:List UInt8):aY a (x::r)=aY (jG a x) r:=List.foldl_cons ..
theorem uB (a:Nat)(d e:List UInt8):aY a (d++e)=aY (aY a d) e:=List.foldl_append
theorem lI (a:Nat)(d:List UInt8)(x:UInt8):aY a (d++[x])=10*aY a d+(x.toNat-48):=by
 rw[uB,jP,iT,jG]
theorem wU (a:Nat)(x:UInt8):10*a<=jG a x:=by unfold jG;exact Nat.le_add_right _ _
theorem sS:∀(d:List UInt8) (a:Nat),a<=aY a d
 |[],a=>by rw[iT];exact Nat.le_refl a
 |x::r,a=>by rw[jP];exact Nat.le_trans (by have:=wU a x;omega) (sS r (jG a x))
theorem Du:∀(d:List UInt8) (a:Nat),a*10 ^ d.length<=aY a d
 |[],a=>by rw[iT];simp
 |x::r,a=>by
  have h:=Du r (jG a x)
  have e:a*10 ^ (x::r).length=(10*a)*10 ^ r.length:=by rw[List.length_cons,Nat.pow_succ];simp[Nat.mul_comm,Nat.mul_assoc]
  rw[e,jP]
  exact Nat.le_trans (Nat.mul_le_mul_right _ (wU a x)) h
theorem Ak:∀(d:List UInt8) (a:Nat),(∀x∈d,DG x)->aY a d<(a+1)*10 ^ d.length
 |[],a,_=>by rw[iT];simp
 |x::r,a,h=>by
  have h1:=Ak r (jG a x) (fun y hy=>h y (List.mem_cons_of_mem _ hy))
  have hx:=h x (List.mem_cons_self ..)
  have e:(a+1)*10 ^ (x::r).length=(10*(a+1))*10 ^ r.length:=by rw[List.length_cons,Nat.pow_succ];simp[Nat.mul_comm,Nat.mul_assoc]
  rw[e,jP]
  exact Nat.lt_of_lt_of_le h1 (Nat.mul_le_mul_right _ (by have:=hx.1;have:=hx.2;unfold jG;omega))
theorem sW {x:UInt8}{r:List UInt8}(hx:DG x)(h0:x≠48):10 ^ r.length<=aY 0 (x::r):=by
 have h1:1<=x.toNat-48:=by
  have:x.toNat≠48:=fun e=>h0 (UInt8.toNat_inj.1 (by rw[e];rfl))
  have:=hx.1
  omega
 have h2:1<=jG 0 x:=by unfold jG;omega
 have h3:=Du r (jG 0 x)
 rw[jP]
 exact Nat.le_trans (by have:=Nat.mul_le_mul_right (10 ^ r.length) h2;omega) h3
theorem Au.pos {d:List UInt8}{v:Int}(h:Au d v):1<=v:=by
 obtain⟨h1,h2,h3,rfl,_⟩:=h
 cases d with
 |nil=>exact absurd rfl h1
 |cons x r=>
  have:=sW (r:=r) (h3 x (List.mem_cons_self ..)) (fun e=>h2 (by rw[e];rfl))
  have h0:=Nat.pow_pos (n:=r.length) (show 0<10 by omega)
  omega
theorem uX {c:UInt8}:∀{n n' x x':List UInt8},n++c::x=n'++c::x'->c∉n->c∉n'->n=n'/\x=x'
 |[],[],x,x',h,_,_=>by simpa using h
 |[],y::n',x,x',h,_,h2=>by
  simp only[List.nil_append,List.cons_append,List.cons.injEq]at h
  exact absurd (by rw[h.1];exact List.mem_cons_self ..) h2
 |y::n,[],x,x',h,h1,_=>by
  simp only[List.nil_append,List.cons_append,List.cons.injEq]at h
  exact absurd (by rw[h.1];exact List.mem_cons_self ..) h1
 |y::n,z::n',x,x',h,h1,h2=>by
  simp only[List.cons_append,List.cons.injEq]at h
  obtain⟨e1,e2⟩:=uX h.2 (fun k=>h1 (List.mem_cons_of_mem _ k)) (fun k=>h2 (List.mem_cons_of_mem _ k))
  exact⟨by rw[h.1,e1],e2⟩
theorem vg {p:UInt8->Prop}:∀{d d' r r':List UInt8},d++r=d'++r'->(∀x∈d,p x)->(∀x∈d',p x)->(∀x,r.head?=some x->¬p x)->(∀x,r'.head?=some x->¬p x)->d=d'/\r=r'
 |[],[],r,r',h,_,_,_,_=>by simpa using h
 |[],y::d',r,r',h,_,h2,h3,_=>by
  simp only[List.nil_append,List.cons_append]at h
  exact absurd (h2 y (List.mem_cons_self ..)) (h3 y (by rw[h];rfl))
 |y::d,[],r,r',h,h1,_,_,h4=>by
  simp only[List.nil_append,List.cons_append]at h
  exact absurd (h1 y (List.mem_cons_self ..)) (h4 y (by rw[<- h];rfl))
 |y::d,z::d',r,r',h,h1,h2,h3,h4=>by
  simp only[List.cons_append,List.cons.injEq]at h
  obtain⟨e1,e2⟩:=vg h.2 (fun x k=>h1 x (List.mem_cons_of_mem _ k)) (fun x k=>h2 x (List.mem_cons_of_mem _ k)) h3 h4
  exact⟨by rw[h.1,e1],e2⟩
theorem kQ {n:List UInt8}(h:CZ n){c:UInt8}(hc:c=58∨c=32):c∉n:=fun k=>by
 have:=h c k
 unfold NB at this
 rcases hc with rfl|rfl <;> revert this <;> decide
theorem Bd {n:List UInt8}(h:∀x∈n,DG x){c:UInt8}(hc:c=58∨c=32):c∉n:=fun k=>by
 have:=h c k
 unfold DG at this
 rcases hc with rfl|rfl <;> revert this <;> decide
theorem qR {s t:ByteArray}(h:s.data.toList=t.data.toList):s=t:=by
 cases s;cases t
 simpa using h
theorem Word.one {u:List UInt8}{m m':ByteArray×Int}(h:Word u m)(h':Word u m'):m=m':=by
 obtain⟨d,rfl,h1,h2⟩:=h
 obtain⟨d',e,h3,h4⟩:=h'
 obtain⟨e1,rfl⟩:=uX e (kQ h1 (.inl rfl)) (kQ h3 (.inl rfl))
 exact Prod.ext (qR e1) (by rw[h2.2.2.2.1,h4.2.2.2.1])
theorem Words.one:∀{us:List (List UInt8)} {ms ms':List (ByteArray×Int)},Words us ms->Words us ms'->ms=ms'
 |[],[],[],_,_=>rfl
 |u::us,m::ms,m'::ms',h,h'=>by rw[h.1.one h'.1,Words.one h.2 h'.2]
 |[],_::_,_,h,_=>h.elim
 |[],[],_::_,_,h=>h.elim
 |_::_,[],_,h,_=>h.elim
 |_::_,_::_,[],_,h=>h.elim
theorem Words.length:∀{us:List (List UInt8)} {ms:List (ByteArray×Int)},Words us ms->ms.length=us.length
 |[],[],_=>rfl
 |_::_,_::_,h=>by simp[Words.length h.2]
 |[],_::_,h=>h.elim
 |_::_,[],h=>h.elim
theorem Words.snoc:∀{us:List (List UInt8)} {ms:List (ByteArray×Int)} {u:List UInt8} {m:ByteArray×Int},Words us ms->Word u m->Words (us++[u]) (ms++[m])
 |[],[],_,_,_,h=>⟨h,trivial⟩
 |_::_,_::_,_,_,h,k=>⟨h.1,Words.snoc h.2 k⟩
 |[],_::_,_,_,h,_=>h.elim
 |_::_,[],_,_,h,_=>h.elim
theorem Words.cut:∀{us vs:List (List UInt8)} {ms:List (ByteArray×Int)},Words (us++vs) ms->∃ms1 ms2,ms=ms1++ms2/\Words us ms1/\Words vs ms2
 |[],vs,ms,h=>⟨[],ms,rfl,trivial,h⟩
 |_::_,_,[],h=>h.elim
 |u::us,vs,m::ms,h=>by
  obtain⟨m1,m2,rfl,h1,h2⟩:=Words.cut h.2
  exact⟨m::m1,m2,rfl,⟨h.1,h1⟩,h2⟩
theorem dK {c:UInt8}:∀{s r:List UInt8},c∉s->aj c (s++c::r)=s::aj c r
 |[],r,_=>by simp[aj]
 |x::s,r,h=>by
  have hx:x≠c:=fun e=>h (by rw[e];exact List.mem_cons_self ..)
  have ih:=dK (r:=r) (fun k=>h (List.mem_cons_of_mem x k))
  simp only[List.cons_append,aj,if_neg hx,ih]
theorem dV {c:UInt8}:∀{s:List UInt8},c∉s->aj c s=[s]
 |[],_=>rfl
 |x::s,h=>by
  have hx:x≠c:=fun e=>h (by rw[e];exact List.mem_cons_self ..)
  have ih:=dV (fun k=>h (List.mem_cons_of_mem x k))
  simp only[aj,if_neg hx,ih]
theorem jm {c:UInt8}(s:List UInt8):(c∉s)∨∃a r,s=a++c::r/\c∉a:=by
 induction s with
 |nil=>exact .inl (by simp)
 |cons x s ih=>
  by_cases hx:x=c
  ·exact .inr ⟨[],s,by rw[hx];rfl,by simp⟩
  ·rcases ih with h|⟨a,r,rfl,h⟩
   ·exact .inl (by simp[h,Ne.symm hx])
   ·exact .inr ⟨x::a,r,rfl,by simp[h,Ne.symm hx]⟩
theorem Bi {c:UInt8}:∀(n:Nat) (s:List UInt8),s.length<=n->∀w∈aj c s,c∉w:=by
 intro n
 induction n with
 |zero=>
  intro s hs w hw
  obtain rfl:=List.length_eq_zero_iff.1 (Nat.le_zero.1 hs)
  simp[aj]at hw
  rw[hw];simp
 |succ n ih=>
  intro s hs w hw
  rcases jm (c:=c) s with h|⟨a,r,rfl,h⟩
  ·rw[dV h]at hw
   rw[List.mem_singleton.1 hw];exact h
  ·rw[dK h]at hw
   rcases List.mem_cons.1 hw with rfl|hw
   ·exact h
   ·exact ih r (by simp at hs;omega) w hw
theorem uu {c:UInt8}{s p q:List UInt8}(h:aj c s=[p,q]):s=p++c::q/\c∉p/\c∉q:=by
 rcases jm (c:=c) s with h1|⟨a,r,rfl,h1⟩
 ·rw[dV h1]at h;simp at h
 ·rw[dK h1]at h
  simp only[List.cons.injEq]at h
  obtain⟨rfl,h⟩:=h
  rcases jm (c:=c) r with h2|⟨a',r',rfl,h2⟩
  ·rw[dV h2]at h
   simp only[List.cons.injEq,and_true]at h
   obtain rfl:=h
   exact⟨rfl,h1,h2⟩
  ·rw[dK h2]at h
   simp only[List.cons.injEq]at h
   rcases jm (c:=c) r' with h3|⟨a3,r3,rfl,h3⟩
   ·rw[dV h3]at h;simp at h
   ·rw[dK h3]at h;simp at h
theorem Word.split {u:List UInt8}{m:ByteArray×Int}(h:Word u m):∃d,aj 58 u=[m.1.data.toList,d]/\Au d m.2:=by
 obtain⟨d,rfl,h1,h2⟩:=h
 exact⟨d,by rw[dK (kQ h1 (.inl rfl)),dV (Bd h2.2.2.1 (.inl rfl))],h2⟩
theorem Word.free {u:List UInt8}{m:ByteArray×Int}(h:Word u m):(32:UInt8)∉u:=by
 obtain⟨d,rfl,h1,h2⟩:=h
 have k1:=kQ h1 (c:=32) (.inr rfl)
 have k2:=Bd h2.2.2.1 (c:=32) (.inr rfl)
 simp only[List.mem_append,List.mem_cons,not_or]
 exact⟨k1,by decide,k2⟩
def Acc (t:ByteArray)(m:List (ByteArray×Int)):Prop:=t.size<=400/\((t.data.toList=[45]/\m=[])∨(Words (aj 32 t.data.toList) m/\ah m))
def MJ (t:ByteArray)(m:List (ByteArray×Int))(ok:Bool):Prop:=(ok=true/\Acc t m)∨(ok=false/\m=[]/\∀m',¬Acc t m')
theorem LW {m:List (ByteArray×Int)}(h:Words (aj 32 [45]) m):False:=by
 have e:aj 32 [45]=[[45]]:=by decide
 rw[e]at h
 match m,h with
 |[],h=>exact h
 |x::r,h=>
  obtain⟨d,e,h1,h2⟩:=h.1
  have hl:=congrArg List.length e
  simp at hl
  have:=List.length_pos_iff.2 h2.1
  omega
end Go.Proofs.YtpfhegengmlkmabGreatDoor
