/- Texts of this claim. -/
import GoSem.Op.String
import Derived.Laws.Strings
import Derived.Test.YtpfhegengmlkmabGreatDoorProg
import Derived.WalkKit
import Derived.WalkSpells
import Derived.WalkLawsBesides
import Derived.Below
import Derived.Deep.OwnRows
import Derived.Deep.QuietTactic
import Derived.BigQuiet
namespace Go.Proofs.YtpfhegengmlkmabGreatDoor
def NB (c:Int):Prop:=(97<=c/\c<=122)∨(48<=c/\c<=57)∨c=45
def kV (s:ByteArray):Prop:=1<=s.size/\s.size<=8/\∀j,(h:j<s.size)->NB (s[j].toNat:Int)
def iZ (m:ByteArray×Int):Prop:=kV m.1/\1<=m.2/\m.2<=1099511627776
def Asc (s t:ByteArray):Prop:=Op.bytesLess s.toList t.toList=true
def ah (l:List (ByteArray×Int)):Prop:=l.length<=12/\(∀j,(h:j<l.length)->iZ l[j])/\∀j,(h:j+1<l.length)->Asc l[j].1 l[j+1].1
def oJ (l:List (ByteArray×Int))(k:Nat):Prop:=(∀j,(h:j<l.length)->j<k->iZ l[j])/\∀j,(h:j+1<l.length)->j+1<k->Asc l[j].1 l[j+1].1
theorem qH (l:List (ByteArray×Int)):oJ l 0:=⟨fun _ _ h=>by omega,fun _ _ h=>by omega⟩
theorem rq {l:List (ByteArray×Int)}{k:Nat}(H:oJ l k)(hk:k<l.length)(hm:iZ l[k])(ha:0<k->Asc l[k-1].1 l[k].1):oJ l (k+1):=by
 refine⟨fun j hj hlt=>?_,fun j hj hlt=>?_⟩
 ·by_cases e:j=k
  ·subst e;exact hm
  ·exact H.1 j hj (by omega)
 ·by_cases e:j+1=k
  ·subst e;exact ha (by omega)
  ·exact H.2 j hj (by omega)
theorem J7 {l:List (ByteArray×Int)}(h:ah l){k:Nat}(h0:¬k<1)(hk:k<l.length):Asc l[k-1].1 l[k].1:=by
 obtain⟨m,rfl⟩:∃m,k=m+1:=⟨k-1,by omega⟩
 exact h.2.2 m hk
theorem zH {l:List (ByteArray×Int)}{k:Nat}(H:oJ l k)(hk:¬k<l.length)(h:l.length<=12):ah l:=
 ⟨h,fun j hj=>H.1 j hj (by omega),fun j hj=>H.2 j hj (by omega)⟩
theorem toList_inj {s t:ByteArray}(h:s.toList=t.toList):s=t:=by
 rw[ByteArray.toList_eq,ByteArray.toList_eq]at h
 cases s;cases t
 simpa using h
theorem fM {s t:ByteArray}:(s.toList==t.toList)=true↔s=t:=by
 rw[beq_iff_eq]
 exact⟨toList_inj,fun h=>by rw[h]⟩
theorem bg {s t:ByteArray}:(s.toList==t.toList)=false↔s≠t:=by
 rw[beq_eq_false_iff_ne]
 exact⟨fun h e=>h (by rw[e]),fun h e=>h (toList_inj e)⟩
def aA:List (ByteArray×Int)->ByteArray->Int
 |[],_=>0
 |m::r,s=>if m.1=s then m.2 else aA r s
theorem yT {s:ByteArray}:∀{l:List (ByteArray×Int)},(∀j,(h:j<l.length)->l[j].1≠s)->aA l s=0
 |[],_=>rfl
 |m::r,h=>by
  have h0:m.1≠s:=h 0 (by simp)
  rw[aA,if_neg h0]
  exact yT fun j hj=>h (j+1) (by simpa using hj)
theorem FQ {s:ByteArray}:∀{l:List (ByteArray×Int)} {k:Nat} (hk:k<l.length),(∀j,(h:j<l.length)->j<k->l[j].1≠s)->l[k].1=s->aA l s=l[k].2
 |m::r,0,_,_,h=>by
  have h0:m.1=s:=h
  rw[aA,if_pos h0]
  rfl
 |m::r,k+1,hk,hb,h=>by
  have h0:m.1≠s:=hb 0 (by simp) (by omega)
  rw[aA,if_neg h0]
  exact FQ (k:=k) (by simpa using hk) (fun j hj hlt=>hb (j+1) (by simpa using hj) (by omega)) h
theorem LM {s:ByteArray}{l:List (ByteArray×Int)}{k:Nat}(H:∀j,(h:j<l.length)->j<k->l[j].1≠s)(hk:k<l.length)(h:l[k].1≠s):∀j,(h:j<l.length)->j<k+1->l[j].1≠s:=fun j hj hlt=>by
 by_cases e:j=k
 ·subst e;exact h
 ·exact H j hj (by omega)
end Go.Proofs.YtpfhegengmlkmabGreatDoor
namespace Go.Proofs.YtpfhegengmlkmabGreatDoor
open Go.RowKit
def Row (w:World)(a:Option Addr)(l:List (ByteArray×Int)):Prop:=
 ∀k,(h:k<l.length)->∃b o,a=some ⟨b,o,none⟩/\b<w.heap.size/\w.cell? ⟨b,o+k*2,none⟩=some (.string l[k].1)/\w.cell? ⟨b,o+k*2+1,none⟩=some (.int .i64 l[k].2)
theorem Row.below {w w':World}{a:Option Addr}{l:List (ByteArray×Int)}(h:Row w a l)(hb:Below w.heap.size w w'):Row w' a l:=fun k hk=>by
 obtain⟨b,o,ha,hlt,h0,h1⟩:=h k hk
 exact⟨b,o,ha,Nat.lt_of_lt_of_le hlt hb.size,by rw[hb.cell hlt];exact h0,by rw[hb.cell hlt];exact h1⟩
theorem KC {W w1:World}(hb:Below W.heap.size W w1):(∀b o,b<W.heap.size->w1.cell? ⟨b,o,none⟩=W.cell? ⟨b,o,none⟩)/\(∀b o,b<W.heap.size->w1.frozen? ⟨b,o,none⟩=W.frozen? ⟨b,o,none⟩):=
 ⟨fun _ _ h=>hb.cell (p:=⟨_,_,none⟩) h,fun _ _ h=>hb.frozen (p:=⟨_,_,none⟩) h⟩
theorem ae {W w1:World}(hb:Below W.heap.size W w1){b o:Nat}{v:Value}(hlt:b<W.heap.size)(h:W.cell? ⟨b,o,none⟩=some v):w1.cell? ⟨b,o,none⟩=some v:=by
 rw[hb.cell hlt];exact h
theorem box0 (w:World)(x y:Value)(t:TypeId):(w.alloc (.cells #[x,y] t)).cell? ⟨w.heap.size,0,none⟩=some x:=by simp[go_sem]
theorem box1 (w:World)(x y:Value)(t:TypeId):(w.alloc (.cells #[x,y] t)).cell? ⟨w.heap.size,1,none⟩=some y:=by simp[go_sem]
theorem bP (w:World)(o:Obj):w.heap.size<(w.alloc o).heap.size:=by simp
def Own (w:World)(b:Nat)(l:List (ByteArray×Int)):Prop:=
 ∃m f,w.rowIs b 54 m f/\l.length*2<=m/\∀k,(h:k<l.length)->f (k*2)=.string l[k].1/\f (k*2+1)=.int .i64 l[k].2
theorem Own.lt {w:World}{b:Nat}{l:List (ByteArray×Int)}(h:Own w b l):b<w.heap.size:=by
 obtain⟨m,f,h,_⟩:=h
 exact h.lt
theorem Own.row {w:World}{b:Nat}{l:List (ByteArray×Int)}(h:Own w b l):Row w (some ⟨b,0,none⟩) l:=fun k hk=>by
 obtain⟨m,f,h,hm,hf⟩:=h
 refine⟨b,0,rfl,h.lt, ?_, ?_⟩
 ·rw[Nat.zero_add,h.cell (by omega),(hf k hk).1]
 ·rw[Nat.zero_add,h.cell (by omega),(hf k hk).2]
theorem Own.below {w w':World}{b:Nat}{l:List (ByteArray×Int)}(h:Own w b l)(hb:Below w.heap.size w w'):Own w' b l:=by
 have hlt:=h.lt
 obtain⟨m,f,h,hf⟩:=h
 exact⟨m,f,h.of_block (hb.block b hlt),hf⟩
structure But (b:Nat) (w w':World):Prop where
 os:w'.os=w.os
 tape:w'.tape=w.tape
 output:w'.output=w.output
 size:w.heap.size<=w'.heap.size
 block:∀k,k<w.heap.size->k≠b->w'.heap[k]?=w.heap[k]?
theorem But.refl (b:Nat)(w:World):But b w w:=⟨rfl,rfl,rfl,Nat.le_refl _,fun _ _ _=>rfl⟩
theorem But.trans {b:Nat}{x y z:World}(h:But b x y)(k:But b y z):But b x z:=
 ⟨k.os.trans h.os,k.tape.trans h.tape,k.output.trans h.output,Nat.le_trans h.size k.size,fun i hi hn=>(k.block i (Nat.lt_of_lt_of_le hi h.size) hn).trans (h.block i hi hn)⟩
theorem But.of_below {b:Nat}{w w':World}(h:Below w.heap.size w w'):But b w w':=⟨h.os,h.tape,h.output,h.size,fun k hk _=>h.block k hk⟩
theorem But.setCell {b:Nat}{x w:World}(h:But b x w)(i:Nat)(v:Value):But b x (w.setCell ⟨b,i,none⟩ v):=
 h.trans ⟨rfl,rfl,rfl,by simp[World.setCell],fun k _ hn=>Below.heap_setCell _ _ _ _ hn⟩
theorem But.below {b B:Nat}{w w':World}(h:But b w w')(hb:B<=b)(hw:B<=w.heap.size):Below B w w':=
 ⟨h.os,h.tape,h.output,h.size,fun k hk=>h.block k (by omega) (by omega)⟩
theorem But.own {b c:Nat}{w w':World}{l:List (ByteArray×Int)}(h:But b w w')(ho:Own w c l)(hc:c≠b):Own w' c l:=by
 have hlt:=ho.lt
 obtain⟨m,f,h',hf⟩:=ho
 exact⟨m,f,h'.of_block (h.block c hlt hc),hf⟩
structure dA (W:World) where
 w:World
 h:Below W.heap.size W w
theorem dA.some (W:World):Nonempty (dA W):=⟨⟨W,Below.refl _ _⟩⟩
theorem dA.cell {W:World}(n:dA W){b o:Nat}{v:Value}(hlt:b<W.heap.size)(h:W.cell? ⟨b,o,none⟩=Option.some v):n.w.cell? ⟨b,o,none⟩=Option.some v:=ae n.h hlt h
theorem aF {P:Program}{id:Nat}{Q:Exit->Act->World->Prop}{a:Act}{w:World}{l:List Oper}(hm:P.follows .mixedOrders=true)(hB:Region.lexB .any l.toArray=true)
  (h:wpQuiet P l.toArray (fun w'=>∃n:dA w,w'=n.w) (fun a'=>∀w',(∃n:dA w,w'=n.w)->Q .normal a' w') l a):(Code.region id l.toArray true).wp P Q a w:=
 wp_region_quiet (C:=fun w'=>∃n:dA w,w'=n.w) hm hB ⟨⟨w.drew,(Below.refl _ _).drew⟩,rfl⟩ (by simpa using h)
theorem Calls.lat_of {P:Program}{f:FuncId}{args:Array Value}{W:World}{n:dA W}{v:Value}
  (h:Calls P f args n.w fun e w'=>e=.returned v/\Below n.w.heap.size n.w w'):Calls P f args n.w fun e w''=>e=.returned v/\∃m:dA W,w''=m.w:=
 h.mono fun _ w' ⟨he,hb⟩=>⟨he,⟨w',n.h.trans (hb.mono n.h.size)⟩,rfl⟩
theorem Calls.lat_same {P:Program}{f:FuncId}{args:Array Value}{W:World}{n:dA W}{v:Value}
  (h:Calls P f args n.w fun e w'=>e=.returned v/\w'=n.w):Calls P f args n.w fun e w''=>e=.returned v/\∃m:dA W,w''=m.w:=
 h.mono fun _ _ ⟨he,hb⟩=>⟨he,n,hb⟩
end Go.Proofs.YtpfhegengmlkmabGreatDoor
namespace Go.Proofs.YtpfhegengmlkmabGreatDoor
theorem zk:∀x:List UInt8,Op.bytesLess x x=false
 |[]=>rfl
 |a::x=>by simp[Op.bytesLess,zk x]
theorem DN:∀{x y z:List UInt8},Op.bytesLess x y=true->Op.bytesLess y z=true->Op.bytesLess x z=true
 |[],[],_,h,_=>by simp[Op.bytesLess]at h
 |[],_::_,[],_,h=>by simp[Op.bytesLess]at h
 |[],_::_,_::_,_,_=>by simp[Op.bytesLess]
 |_::_,[],_,h,_=>by simp[Op.bytesLess]at h
 |_::_,_::_,[],_,h=>by simp[Op.bytesLess]at h
 |a::x,b::y,c::z,h1,h2=>by
  simp only[Op.bytesLess,Bool.or_eq_true,Bool.and_eq_true,decide_eq_true_eq,beq_iff_eq]at h1 h2 ⊢
  rcases h1 with h1|⟨rfl,h1⟩
  ·rcases h2 with h2|⟨rfl,h2⟩
   ·exact .inl (UInt8.lt_trans h1 h2)
   ·exact .inl h1
  ·rcases h2 with h2|⟨rfl,h2⟩
   ·exact .inl h2
   ·exact .inr ⟨rfl,DN h1 h2⟩
theorem D7:∀{x y:List UInt8},Op.bytesLess x y=false->Op.bytesLess y x=false->x=y
 |[],[],_,_=>rfl
 |[],_::_,h,_=>by simp[Op.bytesLess]at h
 |_::_,[],_,h=>by simp[Op.bytesLess]at h
 |a::x,b::y,h1,h2=>by
  simp only[Op.bytesLess,Bool.or_eq_false_iff,Bool.and_eq_false_iff,decide_eq_false_iff_not,beq_eq_false_iff_ne]at h1 h2
  have hab:a=b:=UInt8.le_antisymm (UInt8.not_lt.1 h2.1) (UInt8.not_lt.1 h1.1)
  subst hab
  have e1:Op.bytesLess x y=false:=h1.2.resolve_left (fun h=>h rfl)
  have e2:Op.bytesLess y x=false:=h2.2.resolve_left (fun h=>h rfl)
  rw[D7 e1 e2]
theorem vY (s:ByteArray):¬Asc s s:=by unfold Asc;rw[zk];simp
theorem jo {s t u:ByteArray}(h:Asc s t)(k:Asc t u):Asc s u:=DN h k
theorem AV {s t:ByteArray}(h:¬Asc s t)(k:¬Asc t s):s=t:=
 toList_inj (D7 (by simpa[Asc]using h) (by simpa[Asc]using k))
theorem jq {s t:ByteArray}(h:Asc s t):s≠t:=fun e=>vY t (e ▸ h)
theorem Ld {s t:ByteArray}(h:Asc s t):¬Asc t s:=fun k=>vY s (jo h k)
def Sorted (l:List (ByteArray×Int)):Prop:=l.Pairwise (fun x y=>Asc x.1 y.1)/\∀m∈l,1<=m.2
theorem xG:Sorted []:=⟨List.Pairwise.nil,by simp⟩
theorem dG {m:ByteArray×Int}{l:List (ByteArray×Int)}(h:Sorted (m::l)):Sorted l:=⟨(List.pairwise_cons.1 h.1).2,fun x hx=>h.2 x (List.mem_cons_of_mem _ hx)⟩
theorem dR {m:ByteArray×Int}{l:List (ByteArray×Int)}(h:Sorted (m::l)):1<=m.2:=h.2 m (by simp)
theorem aU {m:ByteArray×Int}{l:List (ByteArray×Int)}(h:Sorted (m::l)){x:ByteArray×Int}(hx:x∈l):Asc m.1 x.1:=(List.pairwise_cons.1 h.1).1 x hx
theorem mG:∀{l:List (ByteArray×Int)},(∀j,(h:j+1<l.length)->Asc l[j].1 l[j+1].1)->l.Pairwise (fun x y=>Asc x.1 y.1)
 |[],_=>List.Pairwise.nil
 |[m],_=>List.pairwise_singleton _ _
 |m::n::r,h=>by
  have ih:(n::r).Pairwise (fun x y=>Asc x.1 y.1):=mG fun j hj=>h (j+1) (by simpa using hj)
  refine List.pairwise_cons.2 ⟨fun x hx=>?_,ih⟩
  have h0:Asc m.1 n.1:=h 0 (by simp)
  rcases List.mem_cons.1 hx with rfl|hx
  ·exact h0
  ·exact jo h0 ((List.pairwise_cons.1 ih).1 x hx)
theorem ay {l:List (ByteArray×Int)}(h:ah l):Sorted l:=
 ⟨mG h.2.2,fun m hm=>by
  obtain⟨j,hj,rfl⟩:=List.mem_iff_getElem.1 hm
  exact(h.2.1 j hj).2.1⟩
theorem eG {s:ByteArray}:∀{l:List (ByteArray×Int)},(∀m∈l,m.1≠s)->aA l s=0
 |[],_=>rfl
 |m::r,h=>by rw[aA,if_neg (h m (by simp))];exact eG fun x hx=>h x (List.mem_cons_of_mem _ hx)
theorem dP {m:ByteArray×Int}:∀{l:List (ByteArray×Int)},Sorted l->m∈l->aA l m.1=m.2
 |x::r,h,hm=>by
  rcases List.mem_cons.1 hm with rfl|hm
  ·rw[aA,if_pos rfl]
  ·rw[aA,if_neg (jq (aU h hm))]
   exact dP (dG h) hm
theorem fV {s:ByteArray}:∀{l:List (ByteArray×Int)},0<aA l s->(s,aA l s)∈l
 |[],h=>by simp[aA]at h
 |m::r,h=>by
  by_cases e:m.1=s
  ·rw[aA,if_pos e]
   have:(s,m.2)=m:=by rw[<- e]
   rw[this];simp
  ·rw[aA,if_neg e]at h ⊢
   exact List.mem_cons_of_mem _ (fV h)
theorem eP {s:ByteArray}:∀{l:List (ByteArray×Int)},Sorted l->0<=aA l s
 |[],_=>by simp[aA]
 |m::r,h=>by
  rw[aA]
  split
  ·have:=dR h;omega
  ·exact eP (dG h)
theorem qF:∀{k l:List (ByteArray×Int)},Sorted k->Sorted l->(∀s,aA k s=aA l s)->k=l
 |[],[],_,_,_=>rfl
 |[],m::l,_,hl,h=>by
  have:=h m.1
  rw[dP hl (by simp)]at this
  have:=dR hl
  simp[aA]at *
  omega
 |m::k,[],hk,_,h=>by
  have:=h m.1
  rw[dP hk (by simp)]at this
  have:=dR hk
  simp[aA]at *
  omega
 |m::k,n::l,hk,hl,h=>by
  have e:m.1=n.1:=by
   refine AV (fun hlt=>?_) (fun hlt=>?_)
   ·have h1:=h m.1
    rw[dP hk (by simp),aA,if_neg (Ne.symm (jq hlt)),eG (fun x hx=>Ne.symm (jq (jo hlt (aU hl hx))))]at h1
    have:=dR hk
    omega
   ·have h1:=h n.1
    rw[dP hl (by simp),aA,if_neg (Ne.symm (jq hlt)),eG (fun x hx=>Ne.symm (jq (jo hlt (aU hk hx))))]at h1
    have:=dR hl
    omega
  have e2:m.2=n.2:=by
   have h1:=h m.1
   rw[dP hk (by simp),aA,if_pos e.symm]at h1
   exact h1
  have em:m=n:=Prod.ext e e2
  subst em
  rw[qF (dG hk) (dG hl) fun s=>?_]
  by_cases hs:m.1=s
  ·subst hs
   rw[eG (fun x hx=>Ne.symm (jq (aU hk hx))),eG (fun x hx=>Ne.symm (jq (aU hl hx)))]
  ·have h1:=h s
   rwa [aA,if_neg hs,aA,if_neg hs]at h1
def dU:List (ByteArray×Int)->List (ByteArray×Int)->Option ((ByteArray×Int)×(ByteArray×Int))
 |[],[]=>none
 |m::_,[]=>some (m,(m.1,0))
 |[],m::_=>some ((m.1,0),m)
 |x::_,y::_=>if Op.bytesLess x.1.toList y.1.toList then some (x,(x.1,0))else if Op.bytesLess y.1.toList x.1.toList then some ((y.1,0),y)else some (x,y)
def aO:Nat->List (ByteArray×Int)->List (ByteArray×Int)->List ((ByteArray×Int)×(ByteArray×Int))
 |0,_,_=>[]
 |n+1,a,b=>match dU a b with
  |none=>[]
  |some p=>p::aO n (if 0<p.1.2 then a.tail else a) (if 0<p.2.2 then b.tail else b)
structure kT (a b:List (ByteArray×Int)) (P:List ((ByteArray×Int)×(ByteArray×Int))):Prop where
 mem:∀p∈P,p.1=(p.1.1,aA a p.1.1)/\p.2=(p.1.1,aA b p.1.1)/\(0<p.1.2∨0<p.2.2)
 all:∀s,0<aA a s∨0<aA b s->∃p∈P,p.1.1=s
 asc:P.Pairwise (fun p q=>Asc p.1.1 q.1.1)
theorem yK:kT [] [] []:=⟨by simp,by simp[aA],List.Pairwise.nil⟩
theorem jS {a b a' b':List (ByteArray×Int)}{P:List ((ByteArray×Int)×(ByteArray×Int))}{t:ByteArray}{va vb:Int}
  (ha:∀s,aA a s=if s=t then va else aA a' s) (hb:∀s,aA b s=if s=t then vb else aA b' s) (hp:0<va∨0<vb)
  (ka:∀s,0<aA a' s->Asc t s) (kb:∀s,0<aA b' s->Asc t s) (h:kT a' b' P):kT a b (((t,va),(t,vb))::P):=by
 have above:∀p∈P,Asc t p.1.1:=fun p hm=>by
  obtain⟨e1,e2,e3⟩:=h.mem p hm
  rcases e3 with e3|e3
  ·exact ka _ (by rw[e1]at e3;exact e3)
  ·exact kb _ (by rw[e2]at e3;exact e3)
 refine⟨fun p hm=>?_,fun s hs=>?_,List.pairwise_cons.2 ⟨fun p hm=>above p hm,h.asc⟩⟩
 ·rcases List.mem_cons.1 hm with rfl|hm
  ·refine⟨?_, ?_,hp⟩
   ·simp[ha]
   ·simp[hb]
  ·obtain⟨e1,e2,e3⟩:=h.mem p hm
   have hne:¬p.1.1=t:=Ne.symm (jq (above p hm))
   exact⟨by rw[ha,if_neg hne];exact e1,by rw[hb,if_neg hne];exact e2,e3⟩
 ·by_cases e:s=t
  ·subst e;exact⟨_,List.mem_cons_self,rfl⟩
  ·rw[ha,if_neg e,hb,if_neg e]at hs
   obtain⟨p,hm,hp⟩:=h.all s hs
   exact⟨p,List.mem_cons_of_mem _ hm,hp⟩
theorem lK {m:ByteArray×Int}{l:List (ByteArray×Int)}(_:Sorted (m::l))(s:ByteArray):aA (m::l) s=if s=m.1 then m.2 else aA l s:=by
 rw[aA]
 by_cases e:m.1=s
 ·rw[if_pos e,if_pos e.symm]
 ·rw[if_neg e,if_neg (Ne.symm e)]
theorem vz {t:ByteArray}{l:List (ByteArray×Int)}(h:∀m∈l,Asc t m.1)(s:ByteArray):aA l s=if s=t then 0 else aA l s:=by
 by_cases e:s=t
 ·subst e;rw[if_pos rfl,eG fun m hm=>Ne.symm (jq (h m hm))]
 ·rw[if_neg e]
theorem iL {t:ByteArray}{l:List (ByteArray×Int)}(h:∀m∈l,Asc t m.1)(s:ByteArray)(hs:0<aA l s):Asc t s:=h _ (fV hs)
theorem dW:∀(n:Nat) (a b:List (ByteArray×Int)),Sorted a->Sorted b->a.length+b.length<=n->kT a b (aO n a b)
 |0,a,b,_,_,h=>by
  obtain rfl:a=[]:=List.length_eq_zero_iff.1 (by omega)
  obtain rfl:b=[]:=List.length_eq_zero_iff.1 (by omega)
  exact yK
 |n+1,[],[],_,_,_=>yK
 |n+1,m::a,[],ha,_,h=>by
  have h0:=dR ha
  simp only[aO,dU]
  rw[if_pos (by omega),if_neg (by omega)]
  exact jS (lK ha) (vz (by simp)) (.inl (by omega)) (iL fun x hx=>aU ha hx) (by simp[aA]) (dW n a [] (dG ha) xG (by simp at h ⊢;omega))
 |n+1,[],m::b,_,hb,h=>by
  have h0:=dR hb
  simp only[aO,dU]
  rw[if_neg (by omega),if_pos (by omega)]
  exact jS (vz (by simp)) (lK hb) (.inr (by omega)) (by simp[aA]) (iL fun x hx=>aU hb hx) (dW n [] b xG (dG hb) (by simp at h ⊢;omega))
 |n+1,x::a,y::b,ha,hb,h=>by
  have hx:=dR ha
  have hy:=dR hb
  by_cases h1:Op.bytesLess x.1.toList y.1.toList=true
  ·simp only[aO,dU,h1,if_true]
   rw[if_pos (by omega),if_neg (by omega)]
   have low:∀m∈y::b,Asc x.1 m.1:=fun m hm=>by
    rcases List.mem_cons.1 hm with rfl|hm
    ·exact h1
    ·exact jo h1 (aU hb hm)
   exact jS (lK ha) (vz low) (.inl (by omega)) (iL fun x hx=>aU ha hx) (iL low) (dW n a (y::b) (dG ha) hb (by simp at h ⊢;omega))
  ·by_cases h2:Op.bytesLess y.1.toList x.1.toList=true
   ·have hy':0<y.2:=by omega
    have hP:aO (n+1) (x::a) (y::b)=((y.1,0),y)::aO n (x::a) b:=by simp[aO,dU,h1,h2,hy']
    rw[hP]
    have low:∀m∈x::a,Asc y.1 m.1:=fun m hm=>by
     rcases List.mem_cons.1 hm with rfl|hm
     ·exact h2
     ·exact jo h2 (aU ha hm)
    exact jS (vz low) (lK hb) (.inr (by omega)) (iL low) (iL fun x hx=>aU hb hx) (dW n (x::a) b ha (dG hb) (by simp at h ⊢;omega))
   ·have e:x.1=y.1:=AV h1 h2
    have hx':0<x.2:=by omega
    have hy':0<y.2:=by omega
    have hP:aO (n+1) (x::a) (y::b)=(x,y)::aO n a b:=by simp[aO,dU,h1,h2,hx',hy']
    rw[hP]
    have e2:y=(x.1,y.2):=Prod.ext e.symm rfl
    have hb':=lK hb
    rw[<- e]at hb'
    have:=jS (t:=x.1) (va:=x.2) (vb:=y.2) (lK ha) hb' (.inl (by omega)) (iL fun x hx=>aU ha hx) (iL fun z hz=>by rw[e];exact aU hb hz) (dW n a b (dG ha) (dG hb) (by simp at h ⊢;omega))
    rw[<- e2]at this
    exact this
theorem qN:∀(n:Nat) (a b:List (ByteArray×Int)),(aO n a b).length<=n
 |0,_,_=>by simp[aO]
 |n+1,a,b=>by
  simp only[aO]
  cases dU a b with
  |none=>simp
  |some p=>simp;exact qN n _ _
def aG (x y:ByteArray×Int):ByteArray×Int:=if x.2<y.2 then y else x
def gQ (P:List ((ByteArray×Int)×(ByteArray×Int))):List (ByteArray×Int):=P.map fun p=>aG p.1 p.2
end Go.Proofs.YtpfhegengmlkmabGreatDoor
