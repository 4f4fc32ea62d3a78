/- Texts of this claim. -/
import Derived.Lib.SlicesS
import Derived.Lib.ItoaLen
import Derived.Test.YtpfhegengmlkmabGreatDoorZu21
import Derived.Test.YtpfhegengmlkmabGreatDoorZu25
import Derived.Test.YtpfhegengmlkmabGreatDoorZu27
namespace Go.Proofs.YtpfhegengmlkmabGreatDoor
set_option maxRecDepth 100000
def tQ:List UInt8:=[63]
def Md:List UInt8:=[110,111]
def Me:List UInt8:=[110,111,110,101]
def MQ:List UInt8:=[111,107]
def DW:List UInt8:=[98,97,100]
def Ns:List UInt8:=[111,108,100]
def L8:List UInt8:=[102,117,108,108]
def MB:List UInt8:=[107,101,112,116]
def di:List UInt8:=[115,104,111,119,115,32]
def KF:List UInt8:=[32,64,32]
def mF:List UInt8:=[105,110,115]
def mV:List UInt8:=[112,117,116]
def xm:List UInt8:=[111,114,100,101,114]
def Bo:List UInt8:=[106,111,105,110]
def Bc:List UInt8:=[108,97,115,116]
def vX:List UInt8:=[99,111,117,110,116]
def CS:List UInt8:=[98,101,115,116]
def slash:ByteArray:=⟨#[47]⟩
theorem xO:∀{us vs:List ByteArray},us.map bl=vs.map bl->us=vs
 |[],[],_=>rfl
 |[],_::_,h=>by simp at h
 |_::_,[],h=>by simp at h
 |u::us,v::vs,h=>by
  simp only[List.map_cons,List.cons.injEq]at h
  rw[gW h.1,xO h.2]
def aZ (c:UInt8)(t:ByteArray):List ByteArray:=(aj c (bl t)).map fun l=>⟨l.toArray⟩
theorem ny (c:UInt8)(t:ByteArray):(aZ c t).map bl=aj c (bl t):=by
 unfold aZ
 rw[List.map_map]
 conv=>rhs;rw[<- List.map_id (aj c (bl t))]
 apply List.map_congr_left
 intro a _
 simp[bl]
theorem EP {c:UInt8}{t:ByteArray}{us:List ByteArray}(h:us.map bl=aj c (bl t)):us=aZ c t:=xO (h.trans (ny c t).symm)
theorem Iu (c:UInt8):∀l:List UInt8,aj c l≠[]
 |[]=>by simp[aj]
 |x::r=>by
  unfold aj
  by_cases h:x=c
  ·rw[if_pos h];simp
  ·rw[if_neg h];split <;> simp
theorem FM (c:UInt8)(t:ByteArray):aZ c t≠[]:=fun h=>Iu c (bl t) (by rw[<- ny,h];rfl)
theorem zn {c:UInt8}{t:ByteArray}{u:ByteArray}(h:u∈aZ c t):c∉bl u:=by
 have:bl u∈aj c (bl t):=by rw[<- ny];exact List.mem_map_of_mem h
 exact Bi _ _ (Nat.le_refl _) _ this
def kF (ws:List ByteArray)(m:List (ByteArray×Int)):Prop:=ws≠[]/\((ws.map bl=[[45]]/\m=[])∨(Words (ws.map bl) m/\ah m))
theorem wR {m:List (ByteArray×Int)}(h:Words [[45]] m):False:=LW (m:=m) (by
 have e:aj 32 [45]=[[45]]:=by decide
 rw[e];exact h)
theorem kF.one {ws:List ByteArray}{m m':List (ByteArray×Int)}(h:kF ws m)(k:kF ws m'):m=m':=by
 rcases h.2 with⟨h1,rfl⟩|⟨h1,_⟩ <;> rcases k.2 with⟨h2,rfl⟩|⟨h2,_⟩
 ·rfl
 ·rw[h1]at h2;exact(wR h2).elim
 ·rw[h2]at h1;exact(wR h1).elim
 ·exact h1.one h2
theorem kF.stamp {ws:List ByteArray}{m:List (ByteArray×Int)}(h:kF ws m):ah m:=by
 rcases h.2 with⟨_,rfl⟩|⟨_,h⟩
 ·exact bK
 ·exact h
theorem zS {ws:List ByteArray}{t:ByteArray}(hf:∀u∈ws,(32:UInt8)∉bl u)(ht:bl t=Lib.join (ws.map bl) [32])(m:List (ByteArray×Int)):Acc t m↔kF ws m:=by
 by_cases h0:ws=[]
 ·subst h0
  have e:bl t=[]:=ht
  constructor
  ·intro h
   rcases h.2 with⟨h1,_⟩|⟨h1,_⟩
   ·have h1':bl t=[45]:=h1
    rw[e]at h1';cases h1'
   ·have h1':Words (aj 32 (bl t)) m:=h1
    rw[e]at h1'
    match m,h1' with
    |[],h=>exact h.elim
    |x::r,h=>
     obtain⟨d,e,_,_⟩:=h.1
     simp at e
  ·intro h;exact absurd rfl h.1
 ·have hs:aj 32 (bl t)=ws.map bl:=by
   rw[ht]
   refine qo _ (by simpa using h0) fun w hw=>?_
   obtain⟨u,hu,rfl⟩:=List.mem_map.1 hw
   exact hf u hu
  constructor
  ·intro h
   refine⟨h0, ?_⟩
   rcases h.2 with⟨h1,h2⟩|⟨h1,h2⟩
   ·refine .inl ⟨?_,h2⟩
    have h1':bl t=[45]:=h1
    rw[<- hs,h1'];decide
   ·exact .inr ⟨by rw[<- hs];exact h1,h2⟩
  ·intro h
   rcases h.2 with⟨h1,h2⟩|⟨h1,h2⟩
   ·have e:bl t=[45]:=by rw[ht,h1];rfl
    refine⟨?_,.inl ⟨e,h2⟩⟩
    have:=ak t
    rw[e]at this
    simp at this
    omega
   ·refine⟨?_,.inr ⟨by show Words (aj 32 (bl t)) m;rw[hs];exact h1,h2⟩⟩
    have e:bl t=iq m:=by rw[ht,Dk h1];rfl
    have hm:=ut (l:=m) h2.2.1 m.length (Nat.le_refl _)
    rw[List.take_length]at hm
    have:=ak t
    rw[e]at this
    have:=h2.1
    omega
def iH (l:List UInt8)(n:Int):Prop:=l=Lib.itoa n/\-1000000000000000000<n/\n<1000000000000000000
theorem FP {u v:Nat}(h:Lib.decDigits u=Lib.decDigits v):u=v:=by
 have z:Lib.decDigits 0=[48]:=by rw[aC (by omega)];rfl
 rcases Nat.eq_zero_or_pos u with rfl|hu <;> rcases Nat.eq_zero_or_pos v with rfl|hv
 ·rfl
 ·have:=(gI v v (Nat.le_refl _) hv).2.1
  rw[<- h,z]at this
  simp at this
 ·have:=(gI u u (Nat.le_refl _) hu).2.1
  rw[h,z]at this
  simp at this
 ·rw[<- (gI u u (Nat.le_refl _) hu).2.2.2,h,(gI v v (Nat.le_refl _) hv).2.2.2]
theorem xg (u:Nat):(Lib.decDigits u).head?≠some 45:=by
 rcases Nat.eq_zero_or_pos u with rfl|hu
 ·rw[aC (by omega)];decide
 ·obtain⟨h1,_,h3,_⟩:=gI u u (Nat.le_refl _) hu
  intro e
  cases hd:Lib.decDigits u with
  |nil=>exact h1 hd
  |cons x r=>
   rw[hd]at e
   have hx:x=45:=by simpa using e
   have:=h3 x (by rw[hd];exact List.mem_cons_self ..)
   rw[hx]at this
   revert this
   unfold DG
   decide
theorem BO {n m:Int}(h:Lib.itoa n=Lib.itoa m):n=m:=by
 unfold Lib.itoa at h
 by_cases hn:n<0 <;> by_cases hm:m<0
 ·rw[if_pos hn,if_pos hm]at h
  have:=FP (List.cons.inj h).2
  omega
 ·rw[if_pos hn,if_neg hm]at h
  exact absurd (by rw[<- h];rfl) (xg m.toNat)
 ·rw[if_neg hn,if_pos hm]at h
  exact absurd (by rw[h];rfl) (xg n.toNat)
 ·rw[if_neg hn,if_neg hm]at h
  have:=FP h
  omega
theorem iH.one {l:List UInt8}{n m:Int}(h:iH l n)(k:iH l m):n=m:=BO (h.1.symm.trans k.1)
def dY (l:List Int):List UInt8:=Lib.join (l.map Lib.itoa) [32]
def jL (r:List ByteArray)(a:ByteArray)(n:Int)(m:List (ByteArray×Int)):Prop:=∃b q,r=a::b::q/\iH (bl b) n/\kF q m
theorem jL.one {r:List ByteArray}{a a':ByteArray}{n n':Int}{m m':List (ByteArray×Int)}(h:jL r a n m)(k:jL r a' n' m'):a=a'/\n=n'/\m=m':=by
 obtain⟨b,q,rfl,h1,h2⟩:=h
 obtain⟨b',q',e,k1,k2⟩:=k
 simp only[List.cons.injEq]at e
 obtain⟨rfl,rfl,rfl⟩:=e
 exact⟨rfl,h1.one k1,h2.one k2⟩
def pJ (c:Int):List UInt8:=if c=0 then MB else if c=3 then Ns else L8
def Nu (c:Int):List UInt8:=if c=0 then[115,97,109,101]else if c=1 then[108,101,115,115]else if c=2 then[109,111,114,101]else[97,112,97,114,116]
def wF (g g1:aB)(sv:List Int)(ss:List (ByteArray×Int))(c:Int)(g':aB)(t:List UInt8):Prop:=
 (c=2/\g'=g/\t=DW)∨(c=1/\g'=g1/\∃s,mX ss s/\t=di++(dY sv++(KF++bl s)))∨(c≠2/\c≠1/\g'=g1/\t=pJ c)
def FY (g:aB)(a:ByteArray)(n:Int)(m:List (ByteArray×Int))(g':aB)(t:List UInt8):Prop:=
 (Lib.idxOfS g.ins a<0/\g'=g/\t=Md)∨(0<=Lib.idxOfS g.ins a/\∃g1 sv ss c,mi g (Lib.idxOfS g.ins a) n m g1 sv ss c/\wF g g1 sv ss c g' t)
def jM (g:aB)(r:List ByteArray)(g':aB)(t:List UInt8):Prop:=
 (∃a n m,jL r a n m/\FY g a n m g' t)∨((∀a n m,¬jL r a n m)/\g'=g/\t=tQ)
def xA (g:aB)(r:List ByteArray)(g':aB)(t:List UInt8):Prop:=
 (r=[]/\g'=g/\t=tQ)∨(r≠[]/\fG r/\g'=bJ r/\t=MQ)∨(r≠[]/\¬fG r/\g'=g/\t=Md)
def EI (r:List ByteArray)(a b:List (ByteArray×Int)):Prop:=∃k:Nat,Lib.idxOfS r slash=(k:Int)/\kF (r.take k) a/\kF (r.drop (k+1)) b
theorem EI.one {r:List ByteArray}{a b a' b':List (ByteArray×Int)}(h:EI r a b)(k:EI r a' b'):a=a'/\b=b':=by
 obtain⟨i,h0,h1,h2⟩:=h
 obtain⟨j,k0,k1,k2⟩:=k
 obtain rfl:i=j:=by omega
 exact⟨h1.one k1,h2.one k2⟩
def Ho (r:List ByteArray)(t:List UInt8):Prop:=(∃a b,EI r a b/\∃v,kC a b v/\t=Nu v)∨((∀a b,¬EI r a b)/\t=tQ)
def IG (r:List ByteArray)(t:List UInt8):Prop:=
 (∃a b,EI r a b/\∃j ok,DT a b j ok/\((ok=false/\t=Md)∨(ok=true/\∃s,mX j s/\t=bl s)))∨((∀a b,¬EI r a b)/\t=tQ)
def G9 (g:aB)(r:List ByteArray)(t:List UInt8):Prop:=
 (∃a,r=[a]/\((Lib.idxOfS g.ins a<0/\t=Md)∨(0<=Lib.idxOfS g.ins a/\∃x m ok,Nr (g.wins.getD (Lib.idxOfS g.ins a).toNat []) x m ok /\
  ((ok=false/\t=Me)∨(ok=true/\∃s,mX m s/\t=Lib.itoa x++(KF++bl s))))))∨(r.length≠1/\t=tQ)
def Hu (g:aB)(r:List ByteArray)(t:List UInt8):Prop:=(r=[]/\∃n:Nat,Gw g.wins n/\t=Lib.itoa (n:Int))∨(r≠[]/\t=tQ)
def IQ (g:aB)(r:List ByteArray)(t:List UInt8):Prop:=(r=[]/\∃out ok,fC g.wins out ok/\((ok=false/\t=Me)∨(ok=true/\t=dY out)))∨(r≠[]/\t=tQ)
def fD (g:aB)(c:List UInt8)(r:List ByteArray)(g':aB)(t:List UInt8):Prop:=
 if c=mF then xA g r g' t else if c=mV then jM g r g' t else if c=xm then g'=g/\Ho r t else if c=Bo then g'=g/\IG r t
 else if c=Bc then g'=g/\G9 g r t else if c=vX then g'=g/\Hu g r t else if c=CS then g'=g/\IQ g r t else g'=g/\t=tQ
def fP (g:aB)(ws:List ByteArray)(g':aB)(t:List UInt8):Prop:=∃u r,ws=u::r/\fD g (bl u) r g' t
theorem wF.one {g g1 a b:aB}{sv:List Int}{ss:List (ByteArray×Int)}{c:Int}{s t:List UInt8}(h:wF g g1 sv ss c a s)(k:wF g g1 sv ss c b t):a=b/\s=t:=by
 rcases h with⟨h1,rfl,rfl⟩|⟨h1,rfl,x,hx,rfl⟩|⟨h1,h2,rfl,rfl⟩
 ·rcases k with⟨_,rfl,rfl⟩|⟨k1,_⟩|⟨k1,_⟩
  ·exact⟨rfl,rfl⟩
  ·omega
  ·exact absurd h1 k1
 ·rcases k with⟨k1,_⟩|⟨_,rfl,y,hy,rfl⟩|⟨_,k1,_⟩
  ·omega
  ·rw[hx.one hy];exact⟨rfl,rfl⟩
  ·exact absurd h1 k1
 ·rcases k with⟨k1,_⟩|⟨k1,_⟩|⟨_,_,rfl,rfl⟩
  ·exact absurd k1 h1
  ·exact absurd k1 h2
  ·exact⟨rfl,rfl⟩
theorem FY.one {g a b:aB}{x:ByteArray}{n:Int}{m:List (ByteArray×Int)}{s t:List UInt8}(h:FY g x n m a s)(k:FY g x n m b t):a=b/\s=t:=by
 rcases h with⟨h1,rfl,rfl⟩|⟨h1,g1,sv,ss,c,h2,h3⟩
 ·rcases k with⟨_,rfl,rfl⟩|⟨k1,_⟩
  ·exact⟨rfl,rfl⟩
  ·omega
 ·rcases k with⟨k1,_⟩|⟨_,g2,sv2,ss2,c2,k2,k3⟩
  ·omega
  ·obtain⟨rfl,rfl,rfl,rfl⟩:=h2.one k2
   exact h3.one k3
theorem jM.one {g a b:aB}{r:List ByteArray}{s t:List UInt8}(h:jM g r a s)(k:jM g r b t):a=b/\s=t:=by
 rcases h with⟨x,n,m,h1,h2⟩|⟨h1,rfl,rfl⟩
 ·rcases k with⟨y,n',m',k1,k2⟩|⟨k1,_⟩
  ·obtain⟨rfl,rfl,rfl⟩:=h1.one k1
   exact h2.one k2
  ·exact absurd h1 (k1 _ _ _)
 ·rcases k with⟨y,n',m',k1,k2⟩|⟨_,rfl,rfl⟩
  ·exact absurd k1 (h1 _ _ _)
  ·exact⟨rfl,rfl⟩
theorem xA.one {g a b:aB}{r:List ByteArray}{s t:List UInt8}(h:xA g r a s)(k:xA g r b t):a=b/\s=t:=by
 rcases h with⟨h1,rfl,rfl⟩|⟨h1,h2,rfl,rfl⟩|⟨h1,h2,rfl,rfl⟩ <;> rcases k with⟨k1,rfl,rfl⟩|⟨k1,k2,rfl,rfl⟩|⟨k1,k2,rfl,rfl⟩ <;>
  first|exact⟨rfl,rfl⟩|exact absurd h1 k1|exact absurd k1 h1|exact absurd h2 k2|exact absurd k2 h2
theorem Ho.one {r:List ByteArray}{s t:List UInt8}(h:Ho r s)(k:Ho r t):s=t:=by
 rcases h with⟨a,b,h1,v,h2,rfl⟩|⟨h1,rfl⟩ <;> rcases k with⟨a',b',k1,v',k2,rfl⟩|⟨k1,rfl⟩
 ·obtain⟨rfl,rfl⟩:=h1.one k1
  rw[h2.one k2]
 ·exact absurd h1 (k1 _ _)
 ·exact absurd k1 (h1 _ _)
 ·rfl
theorem IG.one {r:List ByteArray}{s t:List UInt8}(h:IG r s)(k:IG r t):s=t:=by
 rcases h with⟨a,b,h1,j,ok,h2,h3⟩|⟨h1,rfl⟩ <;> rcases k with⟨a',b',k1,j',ok',k2,k3⟩|⟨k1,rfl⟩
 ·obtain⟨rfl,rfl⟩:=h1.one k1
  obtain⟨rfl,rfl⟩:=h2.one k2
  rcases h3 with⟨h3,rfl⟩|⟨h3,x,hx,rfl⟩ <;> rcases k3 with⟨k3,rfl⟩|⟨k3,y,hy,rfl⟩
  ·rfl
  ·rw[h3]at k3;cases k3
  ·rw[h3]at k3;cases k3
  ·rw[hx.one hy]
 ·exact absurd h1 (k1 _ _)
 ·exact absurd k1 (h1 _ _)
 ·rfl
theorem G9.one {g:aB}{r:List ByteArray}{s t:List UInt8}(h:G9 g r s)(k:G9 g r t):s=t:=by
 rcases h with⟨a,rfl,h⟩|⟨h1,rfl⟩ <;> rcases k with⟨a',e,k⟩|⟨k1,rfl⟩
 ·obtain rfl:a=a':=by simpa using e
  rcases h with⟨h1,rfl⟩|⟨h1,x,m,ok,h2,h3⟩ <;> rcases k with⟨k1,rfl⟩|⟨k1,x',m',ok',k2,k3⟩
  ·rfl
  ·omega
  ·omega
  ·obtain⟨rfl,rfl,rfl⟩:=h2.one k2
   rcases h3 with⟨h3,rfl⟩|⟨h3,x,hx,rfl⟩ <;> rcases k3 with⟨k3,rfl⟩|⟨k3,y,hy,rfl⟩
   ·rfl
   ·rw[h3]at k3;cases k3
   ·rw[h3]at k3;cases k3
   ·rw[hx.one hy]
 ·simp at k1
 ·rw[e]at h1;simp at h1
 ·rfl
theorem Hu.one {g:aB}{r:List ByteArray}{s t:List UInt8}(h:Hu g r s)(k:Hu g r t):s=t:=by
 rcases h with⟨h1,n,h2,rfl⟩|⟨h1,rfl⟩ <;> rcases k with⟨k1,n',k2,rfl⟩|⟨k1,rfl⟩
 ·rw[h2.one k2]
 ·exact absurd h1 k1
 ·exact absurd k1 h1
 ·rfl
theorem IQ.one {g:aB}{r:List ByteArray}{s t:List UInt8}(h:IQ g r s)(k:IQ g r t):s=t:=by
 rcases h with⟨h1,n,ok,h2,h3⟩|⟨h1,rfl⟩ <;> rcases k with⟨k1,n',ok',k2,k3⟩|⟨k1,rfl⟩
 ·obtain⟨rfl,rfl⟩:=h2.one k2
  rcases h3 with⟨h3,rfl⟩|⟨h3,rfl⟩ <;> rcases k3 with⟨k3,rfl⟩|⟨k3,rfl⟩
  ·rfl
  ·rw[h3]at k3;cases k3
  ·rw[h3]at k3;cases k3
  ·rfl
 ·exact absurd h1 k1
 ·exact absurd k1 h1
 ·rfl
theorem fD.one {g a b:aB}{c:List UInt8}{r:List ByteArray}{s t:List UInt8}(h:fD g c r a s)(k:fD g c r b t):a=b/\s=t:=by
 unfold fD at h k
 split at h
 ·rename_i e;rw[if_pos e]at k;exact h.one k
 ·rename_i e;rw[if_neg e]at k
  split at h
  ·rename_i e;rw[if_pos e]at k;exact h.one k
  ·rename_i e;rw[if_neg e]at k
   split at h
   ·rename_i e;rw[if_pos e]at k;exact⟨h.1.trans k.1.symm,h.2.one k.2⟩
   ·rename_i e;rw[if_neg e]at k
    split at h
    ·rename_i e;rw[if_pos e]at k;exact⟨h.1.trans k.1.symm,h.2.one k.2⟩
    ·rename_i e;rw[if_neg e]at k
     split at h
     ·rename_i e;rw[if_pos e]at k;exact⟨h.1.trans k.1.symm,h.2.one k.2⟩
     ·rename_i e;rw[if_neg e]at k
      split at h
      ·rename_i e;rw[if_pos e]at k;exact⟨h.1.trans k.1.symm,h.2.one k.2⟩
      ·rename_i e;rw[if_neg e]at k
       split at h
       ·rename_i e;rw[if_pos e]at k;exact⟨h.1.trans k.1.symm,h.2.one k.2⟩
       ·rename_i e;rw[if_neg e]at k;exact⟨h.1.trans k.1.symm,h.2.trans k.2.symm⟩
theorem fP.one {g a b:aB}{ws:List ByteArray}{s t:List UInt8}(h:fP g ws a s)(k:fP g ws b t):a=b/\s=t:=by
 obtain⟨u,r,rfl,h⟩:=h
 obtain⟨u',r',e,k⟩:=k
 simp only[List.cons.injEq]at e
 obtain⟨rfl,rfl⟩:=e
 exact h.one k
inductive dX:List ByteArray->aB->List UInt8->Prop
 |nil:dX [] fF []
 |skip {ls:List ByteArray} {g:aB} {o:List UInt8} {l:ByteArray} (h:dX ls g o) (hl:bl l=[]):dX (ls++[l]) g o
 |line {ls:List ByteArray} {g g':aB} {o t:List UInt8} {l:ByteArray} (h:dX ls g o) (hl:bl l≠[]) (ht:fP g (aZ 32 l) g' t):dX (ls++[l]) g' (o++(t++[10]))
theorem dX.inv {l:List ByteArray}{g:aB}{o:List UInt8}(h:dX l g o) :
  (l=[]/\g=fF/\o=[])∨∃ls x gp op,l=ls++[x]/\dX ls gp op/\((bl x=[]/\g=gp/\o=op)∨(bl x≠[]/\∃t,fP gp (aZ 32 x) g t/\o=op++(t++[10]))):=by
 cases h with
 |nil=>exact .inl ⟨rfl,rfl,rfl⟩
 |skip h hl=>exact .inr ⟨_,_,_,_,rfl,h,.inl ⟨hl,rfl,rfl⟩⟩
 |line h hl ht=>exact .inr ⟨_,_,_,_,rfl,h,.inr ⟨hl,_,ht,rfl⟩⟩
theorem dX.one {l:List ByteArray}{g:aB}{o:List UInt8}(h:dX l g o):∀{g':aB} {o':List UInt8},dX l g' o'->g=g'/\o=o':=by
 induction h with
 |nil=>
  intro g' o' k
  rcases k.inv with⟨_,rfl,rfl⟩|⟨ls,x,_,_,e,_⟩
  ·exact⟨rfl,rfl⟩
  ·simp at e
 |skip h hl ih=>
  intro g' o' k
  rcases k.inv with⟨e,_⟩|⟨ls,x,gp,op,e,hr,hx⟩
  ·simp at e
  ·obtain⟨rfl,e2⟩:=List.append_inj' e rfl
   obtain rfl:_=x:=by simpa using e2
   obtain⟨rfl,rfl⟩:=ih hr
   rcases hx with⟨_,rfl,rfl⟩|⟨hx,_⟩
   ·exact⟨rfl,rfl⟩
   ·exact absurd hl hx
 |line h hl ht ih=>
  intro g' o' k
  rcases k.inv with⟨e,_⟩|⟨ls,x,gp,op,e,hr,hx⟩
  ·simp at e
  ·obtain⟨rfl,e2⟩:=List.append_inj' e rfl
   obtain rfl:_=x:=by simpa using e2
   obtain⟨rfl,rfl⟩:=ih hr
   rcases hx with⟨hx,_⟩|⟨_,t',ht',rfl⟩
   ·exact absurd hx hl
   ·obtain⟨rfl,rfl⟩:=ht.one ht'
    exact⟨rfl,rfl⟩
def xh (t:ByteArray):Prop:=3000<t.size∨80<(aZ 10 t).length
def lT (t s:ByteArray):Prop:=(xh t/\bl s=[108,111,110,103,10])∨(¬xh t/\∃g,dX (aZ 10 t) g (bl s))
theorem lT.one {t s s':ByteArray}(h:lT t s)(k:lT t s'):s=s':=by
 rcases h with⟨h1,h2⟩|⟨h1,g,h2⟩ <;> rcases k with⟨k1,k2⟩|⟨k1,g',k2⟩
 ·exact gW (h2.trans k2.symm)
 ·exact absurd h1 k1
 ·exact absurd k1 h1
 ·exact gW (h2.one k2).2
def iw (n:Int):Prop:=-1000000000000000000<n/\n<1000000000000000000
structure dM (g:aB):Prop where
 nice:nS g
 len:g.wins.length=g.ins.length
 vals:∀l∈g.wins,∀it∈l,iw it.1
theorem nJ:dM fF:=⟨oz,rfl,fun l hl=>by simp[fF]at hl⟩
theorem Ez {ins:List ByteArray}(h:fG ins):dM (bJ ins):=by
 refine⟨⟨h.2.1,fun j hj=>(h.2.2 j hj).1.2.1,by simp[bJ];exact h.2.1,fun l hl=>?_,bK⟩,by simp[bJ],fun l hl it hi=>?_⟩
 ·obtain rfl:l=[]:=(List.mem_replicate.1 hl).2
  exact⟨by simp,fun j hj=>absurd hj (Nat.not_lt_zero j)⟩
 ·obtain rfl:l=[]:=(List.mem_replicate.1 hl).2
  simp at hi
theorem JA {l:List af}{x:Int}{m:List (ByteArray×Int)}{r:List af}{c:Int}(h:zf l x m r c)(hl:∀it∈l,iw it.1)(hx:iw x):∀it∈r,iw it.1:=by
 by_cases hp:aX l/\ah m/\m≠[]
 ·by_cases ht:kz l m
  ·rw[(h.2.2 hp ht).1]
   unfold vV
   intro it hi
   split at hi
   ·rcases List.mem_append.1 hi with hi|hi
    ·exact hl it hi
    ·obtain rfl:=List.mem_singleton.1 hi
     exact hx
   ·rcases List.mem_append.1 hi with hi|hi
    ·exact hl it (List.mem_of_mem_tail hi)
    ·obtain rfl:=List.mem_singleton.1 hi
     exact hx
  ·rw[(h.2.1 hp ht).1]
   exact hl
 ·rw[(h.1 hp).1]
  intro it hi
  simp at hi
theorem FC {α:Type}(l:List α)(k:Nat)(d:α):l.getD k d=d∨l.getD k d∈l:=by
 rcases Nat.lt_or_ge k l.length with hk|hk
 ·right
  rw[List.getD_eq_getElem?_getD,List.getElem?_eq_getElem hk,Option.getD_some]
  exact List.getElem_mem hk
 ·left
  rw[List.getD_eq_getElem?_getD,List.getElem?_eq_none hk]
  rfl
theorem MP:iw 0:=⟨by decide,by decide⟩
theorem KW {ws:List (List af)}{ps:List Int}(h:∀l∈ws,∀it∈l,iw it.1):∀v∈bZ ws ps,iw v:=by
 intro v hv
 obtain⟨k,_,rfl⟩:=List.mem_map.1 hv
 unfold MM
 rcases FC (ws.getD k []) (ps.getD k 0).toNat (0,[])with e|e
 ·rw[e];exact MP
 ·rcases FC ws k []with e2|e2
  ·rw[e2]at e;simp at e
  ·exact h _ e2 _ e
theorem jJ.facts {ws:List (List af)}{sh s1 t1:List (ByteArray×Int)}{v1:List Int}{c1:Int}(h:jJ ws sh s1 v1 t1 c1)(hv:∀l∈ws,∀it∈l,iw it.1):(∀v∈v1,iw v)/\(c1=0∨c1=1∨c1=4):=by
 obtain⟨o1,k1,b1,h⟩:=h
 rcases h with⟨rfl,rfl,rfl,rfl,rfl⟩|⟨rfl,j1,x1,i1,⟨rfl,rfl,rfl,rfl,rfl⟩|⟨rfl,p1,q1,⟨h1,rfl,rfl,rfl,rfl⟩|⟨h1,rfl,rfl,rfl,rfl⟩⟩⟩
 ·exact⟨fun v hv=>by simp at hv,.inl rfl⟩
 ·exact⟨fun v hv=>by simp at hv,.inr (.inr rfl)⟩
 ·exact⟨fun v hv=>by simp at hv,.inl rfl⟩
 ·exact⟨KW hv,.inr (.inl rfl)⟩
theorem mi.facts {g g1:aB}{i x c:Int}{m ss:List (ByteArray×Int)}{sv:List Int}(h:mi g i x m g1 sv ss c)(hg:dM g)(hx:iw x):dM g1/\(∀v∈sv,iw v)/\(c=0∨c=1∨c=2∨c=3∨c=4):=by
 have hn:=h.nice
 rcases h with⟨h0,rfl,rfl,rfl,rfl⟩|⟨h0,r1,d1,p1,⟨rfl,rfl,rfl,rfl,rfl⟩|⟨rfl,rfl,rfl,rfl,rfl⟩|⟨rfl,sh1,q1,rfl⟩⟩
 ·exact⟨nJ,fun v hv=>by simp at hv,by omega⟩
 ·exact⟨nJ,fun v hv=>by simp at hv,by omega⟩
 ·exact⟨hg,fun v hv=>by simp at hv,by omega⟩
 ·have hv:∀l∈g.wins.set i.toNat r1,∀it∈l,iw it.1:=fun l hl=>by
   rcases List.mem_or_eq_of_mem_set hl with h1|h1
   ·exact hg.vals l h1
   ·subst h1
    refine JA p1 (fun it hi=>?_) hx
    rcases Nat.lt_or_ge i.toNat g.wins.length with hk|hk
    ·rw[List.getD_eq_getElem?_getD,List.getElem?_eq_getElem hk,Option.getD_some]at hi
     exact hg.vals _ (List.getElem_mem hk) it hi
    ·rw[List.getD_eq_getElem?_getD,List.getElem?_eq_none hk]at hi
     simp at hi
  have hf:=q1.facts hv
  exact⟨⟨hn.1,by simpa using hg.len,hv⟩,hf.1,by rcases hf.2 with h|h|h <;> omega⟩
theorem iw.len {n:Int}(h:iw n):(Lib.itoa n).length<=21:=Lib.itoa_length_le n (by have:=h.1;omega) (by have:=h.2;omega)
theorem AX {K:Nat}:∀{xs:List (List UInt8)},(∀x∈xs,x.length<=K)->Lib.lens xs<=xs.length*K
 |[],_=>by simp[Lib.lens]
 |x::r,h=>by
  have h1:=h x (List.mem_cons_self ..)
  have h2:=AX fun y hy=>h y (List.mem_cons_of_mem _ hy)
  have e:(x::r).length*K=r.length*K+K:=by rw[List.length_cons,Nat.succ_mul]
  rw[e]
  simp only[Lib.lens,List.map_cons,List.sum_cons]at h2 ⊢
  omega
theorem FN {K:Nat}{xs:List (List UInt8)}(h:∀x∈xs,x.length<=K):(Lib.join xs [32]).length<=xs.length+xs.length*K:=by
 cases xs with
 |nil=>simp[Lib.join_nil]
 |cons x r=>
  have:=AX h
  rw[Lib.join_length]
  simp at this ⊢
  omega
theorem jT {l:List Int}(h:∀v∈l,iw v):(dY l).length<=l.length+l.length*21:=by
 have:=FN (K:=21) (xs:=l.map Lib.itoa) (fun x hx=>by obtain⟨v,hv,rfl⟩:=List.mem_map.1 hx;exact(h v hv).len)
 simpa[dY]using this
theorem FB {α β:Type}{K:Nat}{f:α->List β}:∀{l:List α},(∀x∈l,(f x).length<=K)->(l.flatMap f).length<=l.length*K
 |[],_=>by simp
 |x::r,h=>by
  have h1:=h x (List.mem_cons_self ..)
  have h2:=FB fun y hy=>h y (List.mem_cons_of_mem _ hy)
  rw[List.flatMap_cons,List.length_append,List.length_cons,Nat.succ_mul]
  omega
theorem FZ {ws:List (List af)}(h:∀j,(ws.getD j []).length<=4):∀(m:Nat) (ps:List Int),(allL ws m ps).length<=4 ^ m
 |0,ps=>by simp[allL]
 |m+1,ps=>by
  unfold allL
  refine Nat.le_trans (FB fun i _=>FZ h m _) ?_
  rw[List.length_range,Nat.pow_succ,Nat.mul_comm]
  exact Nat.mul_le_mul_left _ (h _)
theorem Gw.le {ws:List (List af)}{n:Nat}(h:Gw ws n):n<=4096:=by
 rcases h with⟨h1,rfl⟩|⟨_,rfl⟩
 ·have h4:∀j,(ws.getD j []).length<=4:=fun j=>by
   rcases Nat.lt_or_ge j ws.length with hj|hj
   ·rw[List.getD_eq_getElem?_getD,List.getElem?_eq_getElem hj,Option.getD_some]
    exact(h1.2.2 j hj).1
   ·rw[List.getD_eq_getElem?_getD,List.getElem?_eq_none hj]
    simp
  have h6:ws.length<=6:=h1.2.1
  unfold bQ
  refine Nat.le_trans (List.length_filter_le _ _) (Nat.le_trans (FZ h4 _ _) ?_)
  exact Nat.le_trans (Nat.pow_le_pow_right (by omega) h6) (by decide)
 ·omega
theorem fC.facts {ws:List (List af)}{out:List Int}{ok:Bool}(h:fC ws out ok):out.length<=6/\∀v∈out,iw v:=by
 rcases h with⟨_,hc,_⟩|⟨_,rfl,_⟩
 ·refine⟨by have:=hc.2.1;have:=hc.1.2.1;omega,fun v hv=>?_⟩
  obtain⟨i,hi,rfl⟩:=List.mem_iff_getElem.1 hv
  have hw:i<ws.length:=by have:=hc.2.1;omega
  have h1:=hc.2.2.1.2 i hi
  have h2:=(hc.1.2.2 i hw).1
  have e:ws.getD i []=ws[i]:=by rw[List.getD_eq_getElem?_getD,List.getElem?_eq_getElem hw,Option.getD_some]
  rw[e]at h1
  exact⟨by omega,by omega⟩
 ·exact⟨by simp,fun v hv=>by simp at hv⟩
theorem Jt {l:List af}{x:Int}{m:List (ByteArray×Int)}{ok:Bool}(h:Nr l x m ok)(hl:∀it∈l,iw it.1):iw x:=by
 by_cases hp:aX l/\0<l.length
 ·have e:=congrArg Prod.fst (h.1 hp).2
  simp only at e
  rw[e]
  exact hl _ (List.getElem_mem _)
 ·rw[(h.2 hp).2.1];exact⟨by decide,by decide⟩
theorem F8 {g:aB}(h:dM g)(k:Nat):∀it∈g.wins.getD k [],iw it.1:=by
 intro it hi
 rcases Nat.lt_or_ge k g.wins.length with hk|hk
 ·rw[List.getD_eq_getElem?_getD,List.getElem?_eq_getElem hk,Option.getD_some]at hi
  exact h.vals _ (List.getElem_mem hk) it hi
 ·rw[List.getD_eq_getElem?_getD,List.getElem?_eq_none hk]at hi
  simp at hi
theorem vS {l:List (ByteArray×Int)}{s:ByteArray}(h:mX l s):(bl s).length<=276:=by rw[ak];exact zh h
theorem wF.facts {g g1 g':aB}{sv:List Int}{ss:List (ByteArray×Int)}{c:Int}{t:List UInt8}(h:wF g g1 sv ss c g' t)(hg:dM g)(h1:dM g1)(hl:sv.length<=6)(hv:∀v∈sv,iw v):dM g'/\t.length<=1000:=by
 rcases h with⟨_,rfl,rfl⟩|⟨_,rfl,s,hs,rfl⟩|⟨_,_,rfl,rfl⟩
 ·exact⟨hg,by decide⟩
 ·refine⟨h1, ?_⟩
  have a1:=jT hv
  have a2:=vS hs
  simp only[List.length_append]
  have e1:di.length=6:=rfl
  have e2:KF.length=3:=rfl
  omega
 ·refine⟨h1, ?_⟩
  unfold pJ
  split
  ·decide
  ·split <;> decide
theorem xA.facts {g g':aB}{r:List ByteArray}{t:List UInt8}(h:xA g r g' t)(hg:dM g):dM g'/\t.length<=1000:=by
 rcases h with⟨h1,rfl,rfl⟩|⟨h1,h2,rfl,rfl⟩|⟨h1,h2,rfl,rfl⟩
 ·exact⟨hg,by decide⟩
 ·exact⟨Ez h2,by decide⟩
 ·exact⟨hg,by decide⟩
theorem jM.facts {g g':aB}{r:List ByteArray}{t:List UInt8}(h:jM g r g' t)(hg:dM g):dM g'/\t.length<=1000:=by
 rcases h with⟨a,n,m,⟨b,q,rfl,hn,hq⟩,⟨_,rfl,rfl⟩|⟨_,g1,sv,ss,c,hp,h3⟩⟩|⟨_,rfl,rfl⟩
 ·exact⟨hg,by decide⟩
 ·have hf:=hp.facts hg hn.2
  exact h3.facts hg hf.1 hp.nice.2.1 hf.2.1
 ·exact⟨hg,by decide⟩
theorem Ho.le {r:List ByteArray}{t:List UInt8}(h:Ho r t):t.length<=1000:=by
 rcases h with⟨a,b,h1,v,h2,rfl⟩|⟨h1,rfl⟩
 ·unfold Nu
  split
  ·decide
  ·split
   ·decide
   ·split <;> decide
 ·decide
theorem IG.le {r:List ByteArray}{t:List UInt8}(h:IG r t):t.length<=1000:=by
 rcases h with⟨a,b,h1,j,ok,h2,⟨_,rfl⟩|⟨_,s,hs,rfl⟩⟩|⟨h1,rfl⟩
 ·decide
 ·have:=vS hs;omega
 ·decide
theorem G9.le {g:aB}{r:List ByteArray}{t:List UInt8}(h:G9 g r t)(hg:dM g):t.length<=1000:=by
 rcases h with⟨a,rfl,⟨_,rfl⟩|⟨_,x,m,ok,hL,⟨_,rfl⟩|⟨_,s,hs,rfl⟩⟩⟩|⟨h1,rfl⟩
 ·decide
 ·decide
 ·have a1:=(Jt hL (F8 hg _)).len
  have a2:=vS hs
  have e2:KF.length=3:=rfl
  simp only[List.length_append]
  omega
 ·decide
theorem Hu.le {g:aB}{r:List ByteArray}{t:List UInt8}(h:Hu g r t):t.length<=1000:=by
 rcases h with⟨_,n,hn,rfl⟩|⟨_,rfl⟩
 ·have:=(show iw (n:Int)from⟨by omega,by have:=hn.le;omega⟩).len
  omega
 ·decide
theorem IQ.le {g:aB}{r:List ByteArray}{t:List UInt8}(h:IQ g r t):t.length<=1000:=by
 rcases h with⟨_,out,ok,hb,⟨_,rfl⟩|⟨_,rfl⟩⟩|⟨_,rfl⟩
 ·decide
 ·have:=jT hb.facts.2
  have:=hb.facts.1
  omega
 ·decide
theorem fD.facts {g g':aB}{c:List UInt8}{r:List ByteArray}{t:List UInt8}(h:fD g c r g' t)(hg:dM g):dM g'/\t.length<=1000:=by
 unfold fD at h
 split at h
 ·exact h.facts hg
 split at h
 ·exact h.facts hg
 split at h
 ·exact⟨by rw[h.1];exact hg,h.2.le⟩
 split at h
 ·exact⟨by rw[h.1];exact hg,h.2.le⟩
 split at h
 ·exact⟨by rw[h.1];exact hg,h.2.le hg⟩
 split at h
 ·exact⟨by rw[h.1];exact hg,h.2.le⟩
 split at h
 ·exact⟨by rw[h.1];exact hg,h.2.le⟩
 ·exact⟨by rw[h.1];exact hg,by rw[h.2];decide⟩
theorem dX.facts {l:List ByteArray}{g:aB}{o:List UInt8}(h:dX l g o):dM g/\o.length<=l.length*1001:=by
 induction h with
 |nil=>exact⟨nJ,by simp⟩
 |skip h hl ih=>exact⟨ih.1,by simp;omega⟩
 |line h hl ht ih=>
  obtain⟨u,r,_,hT⟩:=ht
  have:=hT.facts ih.1
  exact⟨this.1,by simp;omega⟩
end Go.Proofs.YtpfhegengmlkmabGreatDoor
