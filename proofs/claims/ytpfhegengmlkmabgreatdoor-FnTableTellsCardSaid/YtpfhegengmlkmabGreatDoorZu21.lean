/- Texts of this claim. -/
import Derived.Maps.OwnOps
import Derived.Maps.OwnSet
import Derived.Sort.KeysCollected
import Derived.Test.YtpfhegengmlkmabGreatDoorZu20
namespace Go.Proofs.YtpfhegengmlkmabGreatDoor
set_option maxRecDepth 100000
theorem DI:∀(n:Nat) (d:List UInt8),d.length<=n->d≠[]->d.head?≠some 48->(∀x∈d,DG x)->Lib.decDigits (aY 0 d)=d:=by
 intro n
 induction n with
 |zero=>intro d hd hne _ _;exact absurd (List.length_eq_zero_iff.1 (Nat.le_zero.1 hd)) hne
 |succ n ih=>
  intro d hd hne h48 hall
  rcases List.eq_nil_or_concat d with rfl|⟨d',x,rfl⟩
  ·exact absurd rfl hne
  have hx:DG x:=hall x (by simp)
  have ex:UInt8.ofNat (48+(x.toNat-48))=x:=by
   rw[show 48+(x.toNat-48)=x.toNat by have:=hx.1;omega]
   exact UInt8.ofNat_toNat
  rw[List.concat_eq_append]at *
  rw[lI]
  by_cases hd':d'=[]
  ·subst hd'
   rw[iT,aC (by have:=hx.2;omega),Nat.mul_zero,Nat.zero_add,ex]
   rfl
  ·have hh:d'.head?≠some 48:=fun e=>h48 (by
    cases d' with
    |nil=>exact absurd rfl hd'
    |cons y r=>simpa using e)
   have hall':∀y∈d',DG y:=fun y hy=>hall y (List.mem_append_left _ hy)
   have ihd:=ih d' (by simp at hd;omega) hd' hh hall'
   have hpos:1<=aY 0 d':=by
    cases d' with
    |nil=>exact absurd rfl hd'
    |cons y r=>
     have h1:=sW (r:=r) (hall' y (List.mem_cons_self ..)) (fun e=>hh (by rw[e];rfl))
     have h2:=Nat.pow_pos (n:=r.length) (show 0<10 by omega)
     omega
   have h9:x.toNat-48<10:=by have:=hx.2;omega
   rw[dD (by omega),show(10*aY 0 d'+(x.toNat-48)) / 10=aY 0 d' by omega,show(10*aY 0 d'+(x.toNat-48)) % 10=x.toNat-48 by omega,ihd,ex]
theorem gI:∀(n u:Nat),u<=n->1<=u->Lib.decDigits u≠[]/\(Lib.decDigits u).head?≠some 48/\(∀x∈Lib.decDigits u,DG x)/\aY 0 (Lib.decDigits u)=u:=by
 have hone:∀r,r<10->DG (UInt8.ofNat (48+r))/\(UInt8.ofNat (48+r)).toNat-48=r/\(1<=r->UInt8.ofNat (48+r)≠48):=by
  intro r hr
  have e:(UInt8.ofNat (48+r)).toNat=48+r:=by rw[UInt8.toNat_ofNat'];omega
  refine⟨⟨by omega,by omega⟩,by omega,fun h1 h=>?_⟩
  have:=congrArg UInt8.toNat h
  rw[e]at this
  have h48:(48:UInt8).toNat=48:=rfl
  omega
 intro n
 induction n with
 |zero=>intro u h1 h2;omega
 |succ n ih=>
  intro u hu h1
  by_cases h:u<10
  ·rw[aC h]
   obtain⟨k1,k2,k3⟩:=hone u h
   refine⟨by simp,by simpa using k3 h1,fun x hx=>by rw[List.mem_singleton.1 hx];exact k1, ?_⟩
   rw[show[UInt8.ofNat (48+u)]=[]++[UInt8.ofNat (48+u)]from rfl,lI,iT,k2]
   omega
  ·rw[dD h]
   obtain⟨j1,j2,j3,j4⟩:=ih (u / 10) (by omega) (by omega)
   obtain⟨k1,k2,_⟩:=hone (u % 10) (by omega)
   refine⟨by simp, ?_,fun x hx=>?_, ?_⟩
   ·cases hd:Lib.decDigits (u / 10)with
    |nil=>exact absurd hd j1
    |cons y r=>rw[hd]at j2;simpa using j2
   ·rcases List.mem_append.1 hx with hx|hx
    ·exact j3 x hx
    ·rw[List.mem_singleton.1 hx];exact k1
   ·rw[lI,j4,k2]
    omega
theorem FD:∀(n u:Nat),1<=n->u<10 ^ n->(Lib.decDigits u).length<=n:=by
 intro n
 induction n with
 |zero=>intro u h;omega
 |succ n ih=>
  intro u _ hu
  by_cases h:u<10
  ·rw[aC h];simp
  ·rw[dD h,List.length_append,List.length_singleton]
   have hn:1<=n:=by
    rcases Nat.eq_zero_or_pos n with rfl|h'
    ·simp at hu;omega
    ·exact h'
   have:=ih (u / 10) hn (by rw[Nat.pow_succ]at hu;omega)
   omega
theorem KL {d:List UInt8}{v:Int}(h:Au d v):d=Lib.decDigits v.toNat:=by
 have e:v.toNat=aY 0 d:=by rw[h.2.2.2.1];rfl
 rw[e,DI _ d (Nat.le_refl _) h.1 h.2.1 h.2.2.1]
theorem Ll {m:ByteArray×Int}(h:iZ m)(hn:CZ m.1.data.toList):Word (dO m) m:=by
 have h1:=h.2.1
 have h2:=h.2.2
 obtain⟨k1,k2,k3,k4⟩:=gI _ m.2.toNat (Nat.le_refl _) (by omega)
 exact⟨Lib.decDigits m.2.toNat,rfl,hn,k1,k2,k3,by rw[k4];omega,by rw[k4];omega⟩
theorem KN {u:List UInt8}{m:ByteArray×Int}(h:Word u m):u=dO m:=by
 obtain⟨d,rfl,_,hd⟩:=h
 unfold dO
 rw[<- KL hd]
theorem qo:∀(ws:List (List UInt8)),ws≠[]->(∀w∈ws,(32:UInt8)∉w)->aj 32 (Lib.join ws [32])=ws
 |[],h,_=>absurd rfl h
 |[x],_,h=>by rw[Lib.join_one];exact dV (h x (List.mem_cons_self ..))
 |x::y::r,_,h=>by
  have e:Lib.join (x::y::r) [32]=x++32::Lib.join (y::r) [32]:=by
   rw[Lib.join_cons,Lib.join_cons]
   simp[Lib.joinTail]
  rw[e,dK (h x (List.mem_cons_self ..)),qo (y::r) (by simp) (fun w hw=>h w (List.mem_cons_of_mem _ hw))]
theorem yR:∀{l:List (ByteArray×Int)},(∀m∈l,Word (dO m) m)->Words (l.map dO) l
 |[],_=>trivial
 |m::_,h=>⟨h m (List.mem_cons_self ..),yR fun x hx=>h x (List.mem_cons_of_mem _ hx)⟩
theorem Dk:∀{us:List (List UInt8)} {l:List (ByteArray×Int)},Words us l->us=l.map dO
 |[],[],_=>rfl
 |u::us,m::ms,h=>by rw[KN h.1,Dk h.2];rfl
 |[],_::_,h=>h.elim
 |_::_,[],h=>h.elim
theorem Jj {m:ByteArray×Int}(h:iZ m):CZ m.1.data.toList:=fun x hx=>by
 obtain⟨j,hj⟩:=List.getElem?_of_mem hx
 obtain⟨hl,he⟩:=List.getElem?_eq_some_iff.1 hj
 have hl':j<m.1.size:=by rw[show m.1.size=m.1.data.toList.length from Array.length_toList.symm];exact hl
 have h1:=h.1.2.2 j hl'
 have e:m.1[j]=x:=by rw[<- he,Array.getElem_toList];rfl
 rw[<- e]
 exact h1
theorem Bz {m:ByteArray×Int}(h:iZ m):(dO m).length<=22:=by
 unfold dO
 rw[List.length_append,List.length_cons,show m.1.data.toList.length=m.1.size from Array.length_toList]
 have h1:=h.1.2.1
 have h2:=FD 13 m.2.toNat (by omega) (by have:=h.2.2;omega)
 omega
theorem ut {l:List (ByteArray×Int)}(h:∀j,(hj:j<l.length)->iZ l[j]):∀k,k<=l.length->(iq (l.take k)).length<=k*23:=by
 intro k
 induction k with
 |zero=>intro _;simp[iq,Lib.join_nil]
 |succ k ih=>
  intro hk
  have h1:=Bz (h k (by omega))
  by_cases h0:0<k
  ·rw[qj (by omega) h0,List.length_append,List.length_cons]
   have:=ih (by omega)
   omega
  ·obtain rfl:k=0:=by omega
   rw[nR (by omega)]
   omega
theorem zh {l:List (ByteArray×Int)}{s:ByteArray}(h:mX l s):s.size<=276:=by
 rw[show s.size=s.data.toList.length from Array.length_toList.symm]
 by_cases hp:ah l
 ·rw[h.1 hp]
  by_cases h0:l=[]
  ·rw[if_pos h0];simp
  ·rw[if_neg h0]
   have:=ut hp.2.1 l.length (Nat.le_refl _)
   rw[List.take_of_length_le (Nat.le_refl _)]at this
   have:=hp.1
   omega
 ·rw[h.2 hp];simp
end Go.Proofs.YtpfhegengmlkmabGreatDoor
namespace Go.Proofs.YtpfhegengmlkmabGreatDoor
open Go.RowKit Go.BigFrame
def uk (v:Value):Option (DataW Value×List MemPlace):=some (.held v,[])
def lw (s:ByteArray):Lit:=.string s.data.toList
theorem xw {s t:ByteArray}(h:lw s=lw t):s=t:=by
 unfold lw at h
 have h1:s.data.toList=t.data.toList:=by simpa using h
 cases s
 cases t
 simp only at h1
 congr 1
 exact Array.toList_inj.1 h1
theorem qU (s:ByteArray):WideAt.IsKeyLit (lw s):=by unfold lw WideAt.IsKeyLit;trivial
def iR:List aW->List Value
 |[]=>[]
 |p::r=>.int .i64 (p.1:Int)::.int .i64 (p.2:Int)::iR r
theorem pU:∀L r,iR (L++r)=iR L++iR r
 |[],_=>rfl
 |p::L,r=>by simp[iR,pU L r]
theorem rW:∀(L:List aW) (k:Nat) (h:k<L.length),(iR L)[k*2]?=some (.int .i64 (L[k].1:Int))/\(iR L)[k*2+1]?=some (.int .i64 (L[k].2:Int))
 |p::r,0,_=>by simp[iR]
 |p::r,k+1,h=>by
  have:=rW r k (by simpa using h)
  have e0:(k+1)*2=k*2+1+1:=by omega
  rw[e0]
  simp only[iR,List.getElem?_cons_succ,List.getElem_cons_succ]
  exact this
def jd (w:World)(B:Nat)(v:Value)(l:List aW):Prop:=w.ownsRow B 231 2 v l.length (iR l)
structure mY (w:World) (B b n:Nat) (D:DataW Value) (V:ByteArray->Value) (S:ByteArray->List aW):Prop where
 own:w.ownsMap Tryz.prog 9 uk b n D
 lt:b<B
 eq:∀s,D.atKey (lw s) (.held (.slice none 0 0))=.held (V s)
 has:∀s,Maps.has D (lw s)=true↔S s≠[]
 row:∀s,jd w B (V s) (S s)
 far:∀s t,s≠t->(V s).ownBlock=none∨(V s).ownBlock≠(V t).ownBlock
theorem Gs (w:World):mY (w.alloc (.map #[] 0)) (w.heap.size+1) w.heap.size 0 (.map []) (fun _=>.slice none 0 0) (fun _=>[]) where
 own:=World.ownsMap_made _ _ _ _
 lt:=Nat.lt_succ_self _
 eq:=fun s=>rfl
 has:=fun s=>by simp[Maps.has]
 row:=fun s=>World.ownsRow_nil _ _ _ _
 far:=fun s t _=>.inl rfl
theorem jd.kept {w w':World}{B:Nat}{v:Value}{l:List aW}{row:Option Nat}(h:jd w B v l)(hg:w.grownBy w' row)(hne:v.ownBlock=none∨v.ownBlock≠row):jd w' B v l:=World.ownsRow.kept h hg hne
theorem jd.snoc {w:World}{B:Nat}{v:Value}{l:List aW}{p:aW}(h:w.ownsRow B 231 2 v (l.length+1) (iR l++[.int .i64 (p.1:Int),.int .i64 (p.2:Int)])):jd w B v (l++[p]):=by
 unfold jd
 rw[pU,List.length_append]
 exact h
open Classical in
theorem mY.put {w w1 w2:World}{B b n:Nat}{D:DataW Value}{V:ByteArray->Value}{S:ByteArray->List aW}(h:mY w B b n D V S)(s:ByteArray)(p:aW){v':Value}(hg:w.grownBy w1 (V s).ownBlock)
  (ho:w1.ownsRow B 231 2 v' ((S s).length+1) (iR (S s)++[.int .i64 (p.1:Int),.int .i64 (p.2:Int)])) (hloc:v'.ownBlock=(V s).ownBlock∨∃g,v'.ownBlock=some g/\w.heap.size<=g)
  (h2:w2.ownsMap Tryz.prog 9 uk b (n+1) (D.put (lw s) (.held v'))) (hg2:w1.grownBy w2 (some b)) :
  mY w2 B b (n+1) (D.put (lw s) (.held v')) (fun t=>if t=s then v' else V t) (fun t=>if t=s then S s++[p]else S t):=by
 have hb:∀{u:World} {v:Value} {l:List aW},jd u B v l->v.ownBlock=none∨v.ownBlock≠some b:=fun{u v l} hv=>by
  cases hk:v.ownBlock with
  |none=>exact .inl rfl
  |some k=>
   have:=(World.ownsRow.lt hv k hk).1
   have:=h.lt
   exact .inr (fun e=>by cases e;omega)
 have hnew:∀t,t≠s->(V t).ownBlock=none∨(V t).ownBlock≠v'.ownBlock:=fun t ht=>by
  rcases hloc with e|⟨g,e,hle⟩
  ·rw[e];exact h.far t s ht
  ·cases hk:(V t).ownBlock with
   |none=>exact .inl rfl
   |some k=>
    have:=(World.ownsRow.lt (h.row t) k hk).2
    exact .inr (fun e'=>by rw[e]at e';cases e';omega)
 refine⟨h2,h.lt,fun t=>?_,fun t=>?_,fun t=>?_,fun t u htu=>?_⟩
 ·by_cases e:t=s
  ·subst e
   rw[if_pos rfl,Maps.atKey_put_same h.own.isMap (qU t)]
  ·rw[if_neg e,Maps.atKey_put_other (fun h=>e (xw h)),h.eq t]
 ·by_cases e:t=s
  ·subst e
   rw[if_pos rfl,Maps.has_put_same h.own.isMap (qU t)]
   simp
  ·rw[if_neg e,Maps.has_put_other (fun h=>e (xw h)),h.has t]
 ·by_cases e:t=s
  ·subst e
   simp only[↓reduceIte]
   have h3:=jd.snoc (p:=p) ho
   exact h3.kept hg2 (hb h3)
  ·simp only[if_neg e]
   have h3:=(h.row t).kept hg (h.far t s e)
   exact h3.kept hg2 (hb h3)
 ·by_cases e:t=s
  ·subst e
   have hu:u≠t:=fun h=>htu h.symm
   simp only[↓reduceIte,if_neg hu]
   rcases hnew u hu with e1|e1
   ·cases hv:v'.ownBlock with
    |none=>exact .inl rfl
    |some k=>exact .inr (fun e2=>by rw[e1]at e2;cases e2)
   ·exact .inr (fun e2=>e1 e2.symm)
  ·simp only[if_neg e]
   by_cases e2:u=s
   ·subst e2
    simp only[↓reduceIte]
    exact hnew t e
   ·simp only[if_neg e2]
    exact h.far t u htu
def MI (W0:World)(c:List Value)(l:List af):Prop:=c.length=10/\l.length<=4/\c[8]?=some (.int .i64 0)/\c[9]?=some (.int .i64 l.length) /\
 ∀k,(h:k<l.length)->c[k*2]?=some (.int .i64 l[k].1)/\∃v,c[k*2+1]?=some v/\lN W0 v l[k].2
theorem uM.cells {W0:World}{v:Value}{l:List af}(h:uM W0 v l):∃(x0 x1 x2 x3:Int) (a0 a1 a2 a3:Option Addr) (n0 n1 n2 n3 c0 c1 c2 c3:Nat),v=.agg #[.int .i64 x0,.slice a0 n0 c0,.int .i64 x1,.slice a1 n1 c1,.int .i64 x2,.slice a2 n2 c2,.int .i64 x3,.slice a3 n3 c3,.int .i64 0,.int .i64 l.length] /\
  MI W0 [.int .i64 x0,.slice a0 n0 c0,.int .i64 x1,.slice a1 n1 c1,.int .i64 x2,.slice a2 n2 c2,.int .i64 x3,.slice a3 n3 c3,.int .i64 0,.int .i64 l.length] l:=by
 obtain⟨x0,x1,x2,x3,a0,a1,a2,a3,n0,n1,n2,n3,c0,c1,c2,c3,rfl,h4,hk⟩:=h
 refine⟨x0,x1,x2,x3,a0,a1,a2,a3,n0,n1,n2,n3,c0,c1,c2,c3,rfl,rfl,h4,rfl,rfl,fun k h=>?_⟩
 rcases(by omega:k=0∨k=1∨k=2∨k=3)with rfl|rfl|rfl|rfl
 ·obtain⟨q1,a,n,c,q2,q3⟩:=hk 0 h
  obtain⟨rfl,rfl,rfl⟩:a0=a/\n0=n/\c0=c:=by simpa using q2
  have e1:x0=l[0].1:=by simpa using q1
  exact⟨by rw[<- e1];rfl,_,rfl,q3⟩
 ·obtain⟨q1,a,n,c,q2,q3⟩:=hk 1 h
  obtain⟨rfl,rfl,rfl⟩:a1=a/\n1=n/\c1=c:=by simpa using q2
  have e1:x1=l[1].1:=by simpa using q1
  exact⟨by rw[<- e1];rfl,_,rfl,q3⟩
 ·obtain⟨q1,a,n,c,q2,q3⟩:=hk 2 h
  obtain⟨rfl,rfl,rfl⟩:a2=a/\n2=n/\c2=c:=by simpa using q2
  have e1:x2=l[2].1:=by simpa using q1
  exact⟨by rw[<- e1];rfl,_,rfl,q3⟩
 ·obtain⟨q1,a,n,c,q2,q3⟩:=hk 3 h
  obtain⟨rfl,rfl,rfl⟩:a3=a/\n3=n/\c3=c:=by simpa using q2
  have e1:x3=l[3].1:=by simpa using q1
  exact⟨by rw[<- e1];rfl,_,rfl,q3⟩
def mg (L:List (List af×List Value)):List Value:=L.flatMap (·.2)
theorem yP:∀(L:List (List af×List Value)),(∀p∈L,p.2.length=10)->∀(k:Nat) (h:k<L.length) (j:Nat),j<10->(mg L)[k*10+j]?=L[k].2[j]?
 |p::r,hL,0,_,j,hj=>by
  have h10:=hL p (by simp)
  simp only[mg,List.flatMap_cons,Nat.zero_mul,Nat.zero_add,List.getElem_cons_zero]
  rw[List.getElem?_append_left (by omega)]
 |p::r,hL,k+1,h,j,hj=>by
  have h10:=hL p (by simp)
  have:=yP r (fun q hq=>hL q (by simp[hq])) k (by simpa using h) j hj
  simp only[mg,List.flatMap_cons,List.getElem_cons_succ]at this ⊢
  rw[List.getElem?_append_right (by omega),<- this]
  congr 1
  omega
def mM (W0 w:World)(B:Nat)(v:Value)(L:List (List af×List Value)):Prop:=w.ownsRow B 181 10 v L.length (mg L)/\∀p∈L,MI W0 p.2 p.1
theorem mM.snoc {W0 w w':World}{B:Nat}{v v':Value}{L:List (List af×List Value)}{l:List af}{c:List Value}(h:mM W0 w B v L)(hc:MI W0 c l)(h':w'.ownsRow B 181 10 v' (L.length+1) (mg L++c)):mM W0 w' B v' (L++[(l,c)]):=by
 refine⟨?_,fun p hp=>?_⟩
 ·have e:mg (L++[(l,c)])=mg L++c:=by simp[mg]
  rw[e,List.length_append]
  exact h'
 ·rcases List.mem_append.1 hp with hp|hp
  ·exact h.2 p hp
  ·obtain rfl:p=(l,c):=by simpa using hp
   exact hc
theorem mM.keep {W0 w w':World}{B:Nat}{v:Value}{L:List (List af×List Value)}(h:mM W0 w B v L)(hb:Below w.heap.size w w'):mM W0 w' B v L:=⟨dh h.1 hb,h.2⟩
def Dz (W0 w:World)(a:Option Addr)(ws:List (List af)):Prop:=∀k,(h:k<ws.length)->∃b o,a=some ⟨b,o,none⟩/\Es W0 w b (o+k*10) ws[k]
theorem Dz.below {W0 w w':World}{a:Option Addr}{ws:List (List af)}(h:Dz W0 w a ws)(hb:Below w.heap.size w w'):Dz W0 w' a ws:=fun k hk=>by
 obtain⟨b,o,e,h1⟩:=h k hk
 exact⟨b,o,e,h1.below hb⟩
theorem mM.row {W0 w:World}{B:Nat}{v:Value}{L:List (List af×List Value)}(h:mM W0 w B v L):∃a cap,v=.slice a L.length cap/\L.length<=cap/\Dz W0 w a (L.map (·.1)):=by
 rcases h.1.2 with⟨rfl,h0⟩|⟨g,cap,cur,rfl,hB,hh,hn,_⟩
 ·exact⟨none,0,by rw[h0],by omega,fun k hk=>by rw[List.length_map]at hk;omega⟩
 ·have hlt:g<w.heap.size:=(Array.getElem?_eq_some_iff.1 hh).1
  refine⟨_,cap,rfl,hn,fun k hk=>⟨g,0,rfl, ?_⟩⟩
  rw[List.length_map]at hk
  have hc:=h.2 L[k] (List.getElem_mem hk)
  have hat:∀j,j<10->w.cell? ⟨g,0+k*10+j,none⟩=L[k].2[j]?:=fun j hj=>by
   rw[Nat.zero_add,World.ownsRow.cellAt h.1 _ (by omega),yP L (fun p hp=>(h.2 p hp).1) k hk j hj]
  simp only[List.getElem_map]
  refine⟨hlt,hc.2.1,(hat 8 (by omega)).trans hc.2.2.1,(hat 9 (by omega)).trans hc.2.2.2.1,fun j hj=>?_⟩
  obtain⟨h1,v,h2,h3⟩:=hc.2.2.2.2 j hj
  have:=hc.2.1
  exact⟨(hat (j*2) (by omega)).trans h1,v,(hat (j*2+1) (by omega)).trans h2,h3⟩
def Ir (w:World)(a:Option Addr)(l:List aW):Prop:=∀k,(h:k<l.length)->∃b o,a=some ⟨b,o,none⟩/\b<w.heap.size/\w.cell? ⟨b,o+k*2,none⟩=some (.int .i64 (l[k].1:Int))/\w.cell? ⟨b,o+k*2+1,none⟩=some (.int .i64 (l[k].2:Int))
theorem Ir.below {w w':World}{a:Option Addr}{l:List aW}(h:Ir w a l)(hb:Below w.heap.size w w'):Ir w' a l:=fun k hk=>by
 obtain⟨b,o,e,h1,h2,h3⟩:=h k hk
 exact⟨b,o,e,Nat.lt_of_lt_of_le h1 hb.size,ae hb h1 h2,ae hb h1 h3⟩
theorem jd.row {w:World}{B:Nat}{v:Value}{l:List aW}(h:jd w B v l):∃a cap,v=.slice a l.length cap/\l.length<=cap/\Ir w a l:=by
 rcases h.2 with⟨rfl,h0⟩|⟨g,cap,cur,rfl,hB,hh,hn,_⟩
 ·exact⟨none,0,by rw[h0],by omega,fun k hk=>by omega⟩
 ·have hlt:g<w.heap.size:=(Array.getElem?_eq_some_iff.1 hh).1
  refine⟨_,cap,rfl,hn,fun k hk=>⟨g,0,rfl,hlt, ?_, ?_⟩⟩
  ·rw[Nat.zero_add,World.ownsRow.cellAt h _ (by omega),(rW l k hk).1]
  ·rw[Nat.zero_add,World.ownsRow.cellAt h _ (by omega),(rW l k hk).2]
def Eg (w:World)(a:Option Addr)(sh:List (List aW)):Prop:=∀k,(h:k<sh.length)->∃b o,a=some ⟨b,o,none⟩/\b<w.heap.size/\∃s c,w.cell? ⟨b,o+k,none⟩=some (.slice s sh[k].length c)/\sh[k].length<=c/\Ir w s sh[k]
theorem Eg.below {w w':World}{a:Option Addr}{sh:List (List aW)}(h:Eg w a sh)(hb:Below w.heap.size w w'):Eg w' a sh:=fun k hk=>by
 obtain⟨b,o,e,h1,s,c,h2,h3,h4⟩:=h k hk
 exact⟨b,o,e,Nat.lt_of_lt_of_le h1 hb.size,s,c,ae hb h1 h2,h3,h4.below hb⟩
def Ew (W0 w:World)(b:Nat)(ws:List (List af))(sh:List (List aW)):Prop:=
 b<w.heap.size/\∃a c a' c',w.cell? ⟨b,0,none⟩=some (.slice a ws.length c)/\ws.length<=c/\w.cell? ⟨b,1,none⟩=some (.slice a' sh.length c')/\sh.length<=c'/\Dz W0 w a ws/\Eg w a' sh
theorem Ew.below {W0 w w':World}{b:Nat}{ws:List (List af)}{sh:List (List aW)}(h:Ew W0 w b ws sh)(hb:Below w.heap.size w w'):Ew W0 w' b ws sh:=by
 obtain⟨h0,a,c,a',c',h1,h2,h3,h4,h5,h6⟩:=h
 exact⟨Nat.lt_of_lt_of_le h0 hb.size,a,c,a',c',ae hb h0 h1,h2,ae hb h0 h3,h4,h5.below hb,h6.below hb⟩
end Go.Proofs.YtpfhegengmlkmabGreatDoor
namespace Go.Proofs.YtpfhegengmlkmabGreatDoor
open Go.RowKit Go.BigFrame
set_option maxRecDepth 100000
set_option maxHeartbeats 1600000 in
theorem FI (W0 w:World)(b:Nat)(ws:List (List af))(sh:List (List aW))(a':Option Addr)(cap':Nat)(ps:List Int)(h:Ew W0 w b ws sh)(h6:ws.length<=6)(hp:ps.length<=maxLen)(hr':iC w a' ps) :
  Calls Tryz.prog 136 #[.pointer (some ⟨b,0,none⟩),.slice a' ps.length cap'] w fun e w'=>rU (ps.length=ws.length/\kH ws ps) e/\Below w.heap.size w w':=by
 have hpl:ps.length<=2 ^ 63-1:=hp
 clear hp
 obtain⟨hb,a,c,a2,c2,e0,hc,e1,hc2,hv,hg⟩:=h
 by_cases hlen:ps.length=ws.length
 ·have hlen':((ps.length:Int) != (ws.length:Int))=false:=by rw[bne_eq_false_iff_eq];omega
  have HL:Hid (ps.length=ws.length):=hlen
  have hle1:ps.length<=ws.length:=by omega
  clear hlen
  go_enter Tryz.func136,Tryz.ntmps136
  go_wp2_with fail
  go_loopw [17] (fun i wr=>∃k:Nat,k<=ps.length/\i=.int .i64 k/\Hid (∀j,(h:j<ps.length)->j<k->0<=ps[j]/\ps[j]<((ws.getD j []).length:Int))/\wr=w) (fun i _=>ps.length-(intOf i).toNat)
  case atStart=>exact⟨0,Nat.zero_le _,rfl,fun _ _ h=>absurd h (Nat.not_lt_zero _),rfl⟩
  case round=>
   obtain⟨k,hk,rfl,HI,rfl⟩:=hrel
   by_cases hlt:k<ps.length
   ·have hwk:k<ws.length:=by omega
    obtain⟨g,o,rfl,hwo⟩:=hv k hwk
    obtain⟨c1,p1,rfl,gc,z1⟩:=hr' k hlt
    have k0:(0:Int)<=(k:Int):=by omega
    have k1:(k:Int)<(ps.length:Int):=by omega
    have k2:(k:Int)<(ws.length:Int):=by omega
    have HG:Hid (ws.getD k []=ws[k]):=getD_at hwk
    by_cases hn:ps[k]<0
    ·have HN:Hid (¬(ps.length=ws.length/\kH ws ps)):=fun h=>by have:=(h.2.2 k hlt).1;omega
     clear HG
     go_wp2_with fail
     go_ret
     exact⟨ai HN.out,Below.refl _ _⟩
    have hn':decide (ps[k]<0)=false:=decide_eq_false hn
    go_wp2_with fail
    refine(vJ W0 _ g (o+k*10) ws[k] hwo).mono ?_
    rintro e w2 ⟨rfl,rfl⟩
    by_cases hq:ps[k]<(ws[k].length:Int)
    ·have HST:Hid (∀j,(h:j<ps.length)->j<k+1->0<=ps[j]/\ps[j]<((ws.getD j []).length:Int)):=fun j hj hlt'=>by
      by_cases e:j=k
      ·subst e;rw[HG.out];exact⟨by omega,hq⟩
      ·exact HI.out j hj (by omega)
     have hq':decide ((ws[k].length:Int)<=ps[k])=false:=decide_eq_false (by omega)
     clear HG
     go_wp2_with fail
     exact⟨⟨k+1,by omega,by go_num,HST,by trivial⟩,by simp[intOf];omega⟩
    ·have HN:Hid (¬(ps.length=ws.length/\kH ws ps)):=fun h=>by have h3:=(h.2.2 k hlt).2;rw[HG.out]at h3;omega
     have hq':decide ((ws[k].length:Int)<=ps[k])=true:=decide_eq_true (by omega)
     clear HG
     go_wp2_with fail
     go_ret
     exact⟨ai HN.out,Below.refl _ _⟩
   ·have HF:Hid (ps.length=ws.length/\kH ws ps):=⟨HL.out,hle1,fun j hj=>HI.out j hj (by omega)⟩
    go_wp2_with fail
    go_ret
    exact⟨dE HF.out,Below.refl _ _⟩
 ·have hlen':((ps.length:Int) != (ws.length:Int))=true:=by rw[bne_iff_ne];omega
  go_enter Tryz.func136,Tryz.ntmps136
  go_wp2_with fail
  go_ret
  exact⟨ai (fun h=>hlen h.1),Below.refl _ _⟩
theorem sV {ws:List (List af)}{ps:List Int}(hok:OkW ws)(hl:ps.length=ws.length)(hin:kH ws ps){s:ByteArray}{p:aW}(hs:jW ws s p):∃(hw:p.1<ws.length) (_:p.1<ps.length) (q:Nat) (hq:q<ws[p.1].length) (hm:p.2<ws[p.1][q].2.length),ps[p.1]=(q:Int)/\dJ ws ps p=(ws[p.1][q].2[p.2]).2:=by
 have hpw:=hs.1
 have hpp:p.1<ps.length:=by omega
 obtain⟨hmk,_,hver,_,_⟩:=jK hok hl hin hs
 obtain⟨_,q,hqe,hq,hpk⟩:=vK hin hpp
 have hm:p.2<ws[p.1][q].2.length:=by rw[<- hpk];exact hmk
 refine⟨hpw,hpp,q,hq,hm,hqe, ?_⟩
 rw[hver]
 congr 1
 simp only[hpk]
set_option maxHeartbeats 1600000 in
theorem nO (W0 w:World)(b:Nat)(ws:List (List af))(sh:List (List aW))(a':Option Addr)(cap':Nat)(ps:List Int)(p:aW)(s:ByteArray)(h:Ew W0 w b ws sh)(hW:Below W0.heap.size W0 w)(hok:OkW ws)(hl:ps.length=ws.length)(hin:kH ws ps)(hr':iC w a' ps)(hs:jW ws s p) :
  Calls Tryz.prog 163 #[.pointer (some ⟨b,0,none⟩),.slice a' ps.length cap',.agg #[.int .i64 (p.1:Int),.int .i64 (p.2:Int)]] w fun e w'=>e=.returned (.int .i64 (dJ ws ps p))/\Below w.heap.size w w':=by
 obtain⟨hb,a,c,a2,c2,e0,hc,e1,hc2,hv,hg⟩:=h
 obtain⟨hpw,hpp,q,hq,hmk2,hqe,hver⟩:=sV hok hl hin hs
 have HV:Hid (dJ ws ps p=(ws[p.1][q].2[p.2]).2):=hver
 have h6:=hok.2.1
 obtain⟨g,o,rfl,hwo⟩:=hv p.1 hpw
 obtain⟨c1,p1,rfl,gc,z1⟩:=hr' p.1 hpp
 have h4:=hwo.2.1
 obtain⟨y0,yv,y1,sa,sc,rfl,hcap,hrow⟩:=hwo.2.2.2.2 q hq
 rw[hqe]at z1
 obtain⟨bm,om,rfl,hbm,_,m1⟩:=hrow p.2 hmk2
 clear hver hqe hv hg hs hin
 have hgl:=hwo.1
 have c8:=hwo.2.2.1
 have hz0:=hW.size
 go_enter Tryz.func163,Tryz.ntmps163
 go_wp2_with fail
 have hb0:Below w.heap.size w (w.alloc (.cells #[.int .i64 (p.1:Int),.int .i64 (p.2:Int)] 231)):=(Below.refl _ _).alloc (Nat.le_refl _) _
 have hlt0:=bP w (.cells #[.int .i64 (p.1:Int),.int .i64 (p.2:Int)] 231)
 have d0:=box0 w (.int .i64 (p.1:Int)) (.int .i64 (p.2:Int)) 231
 have d1:=box1 w (.int .i64 (p.1:Int)) (.int .i64 (p.2:Int)) 231
 generalize w.alloc (.cells #[.int .i64 (p.1:Int),.int .i64 (p.2:Int)] 231)=W at *
 have hne:=dA.some W
 have n0:∀n:dA W,n.w.cell? ⟨b,0,none⟩=some (.slice (some ⟨g,o,none⟩) ws.length c):=fun n=>n.cell (Nat.lt_of_lt_of_le hb hb0.size) (ae hb0 hb e0)
 have n1:∀n:dA W,n.w.cell? ⟨w.heap.size,0,none⟩=some (.int .i64 (p.1:Int)):=fun n=>n.cell hlt0 d0
 have n2:∀n:dA W,n.w.cell? ⟨w.heap.size,1,none⟩=some (.int .i64 (p.2:Int)):=fun n=>n.cell hlt0 d1
 have n3:∀n:dA W,n.w.cell? ⟨c1,p1+p.1,none⟩=some (.int .i64 (q:Int)):=fun n=>n.cell (Nat.lt_of_lt_of_le gc hb0.size) (ae hb0 gc z1)
 have hbm':bm<w.heap.size:=Nat.lt_of_lt_of_le hbm hz0
 have n4:∀n:dA W,n.w.cell? ⟨bm,om+p.2*2+1,none⟩=some (.int .i64 ((ws[p.1][q]).2[p.2]).2):=fun n=>n.cell (Nat.lt_of_lt_of_le hbm' hb0.size) (ae hb0 hbm' (ae hW hbm m1))
 have ce:∀n:dA W,Calls Tryz.prog 138 #[.pointer (some ⟨g,o+p.1*10,none⟩),.int .i64 q] n.w fun e w''=>e=.returned (.agg #[.int .i64 (ws[p.1][q]).1,.slice (some ⟨bm,om,none⟩) (ws[p.1][q]).2.length sc])/\Below n.w.heap.size n.w w'':=fun n=>by
  have hx:∀{i:Nat} {v:Value},w.cell? ⟨g,i,none⟩=some v->n.w.cell? ⟨g,i,none⟩=some v:=fun h=>n.cell (Nat.lt_of_lt_of_le hgl hb0.size) (ae hb0 hgl h)
  exact Js n.w g (o+p.1*10) q _ _ _ _ (Nat.lt_of_lt_of_le (Nat.lt_of_lt_of_le hgl hb0.size) n.h.size) (by omega) (hx c8) (hx y0) (hx y1)
 have i0:(0:Int)<=(p.1:Int):=by omega
 have i1:(p.1:Int)<(ws.length:Int):=by omega
 have i2:(p.1:Int)<(ps.length:Int):=by omega
 have i3:(0:Int)<=(p.2:Int):=by omega
 have i4:(p.2:Int)<((ws[p.1][q]).2.length:Int):=by omega
 have hfd:=kN (ws[p.1][q]).1 (some ⟨bm,om,none⟩) (ws[p.1][q]).2.length sc
 clear e0 e1 z1 m1 y0 y1 d0 d1 hrow hwo c8
 refine aF (by kernel_rfl) (by kernel_rfl) ?_
 repeat (go_big_quiet_step ((go_at_call 138;exact Calls.lat_of (ce _))))
 refine wpQuiet_nil ?_
 rintro _ ⟨nq,rfl⟩
 go_wp2_with fail
 go_ret
 exact⟨by rw[HV.out];rfl,hb0.trans (nq.h.mono hb0.size)⟩
def IL (ws:List (List af))(sh:List (List aW)):Prop:=lU ws sh/\(∀src∈sh,1<src.length/\src.length<=1000)/\sh.length<=1000
def lu (ws:List (List af))(ps:List Int)(src:List aW)(n:Nat):Prop:=∀i,(h:i<src.length)->i<n->∀h0:0<src.length,dJ ws ps src[i]=dJ ws ps src[0]
theorem BV {ws:List (List af)}{ps:List Int}{src:List aW}{n:Nat}(H:lu ws ps src n)(hn:n<src.length)(h0:0<src.length)(h:dJ ws ps src[n]=dJ ws ps src[0]):lu ws ps src (n+1):=fun i hi hlt _=>by
 by_cases e:i=n
 ·subst e;exact h
 ·exact H i hi (by omega) h0
theorem Dq {ws:List (List af)}{ps:List Int}{sh:List (List aW)}(hok:OkW ws)(hl:ps.length=ws.length)(hin:kH ws ps)(hsh:lU ws sh)(H:∀j,(h:j<sh.length)->lu ws ps sh[j] sh[j].length):yt ws ps:=by
 rw[Aa hok hl hin hsh]
 intro src hs p hp q hq
 obtain⟨j,hj,rfl⟩:=List.mem_iff_getElem.1 hs
 obtain⟨x,hx,rfl⟩:=List.mem_iff_getElem.1 hp
 obtain⟨y,hy,rfl⟩:=List.mem_iff_getElem.1 hq
 rw[H j hj x hx hx (by omega),H j hj y hy hy (by omega)]
theorem KI {ws:List (List af)}{ps:List Int}{sh:List (List aW)}(hok:OkW ws)(hl:ps.length=ws.length)(hin:kH ws ps)(hsh:lU ws sh){j i:Nat}(hj:j<sh.length)(hi:i<sh[j].length)(h0:0<sh[j].length)(h:dJ ws ps sh[j][i]≠dJ ws ps sh[j][0]):¬yt ws ps:=fun hA=>
 h ((Aa hok hl hin hsh).1 hA sh[j] (List.getElem_mem hj) _ (List.getElem_mem hi) _ (List.getElem_mem h0))
theorem uo {W0 W:World}{b:Nat}{ws:List (List af)}{sh:List (List aW)}{a':Option Addr}{cap':Nat}{ps:List Int}(h:Ew W0 W b ws sh)(hW:Below W0.heap.size W0 W)(hok:OkW ws)(hl:ps.length=ws.length)(hin:kH ws ps)(hr':iC W a' ps)(hsh:lU ws sh){src:List aW}(hs:src∈sh){p:aW}(hp:p∈src)(n:dA W) :
  Calls Tryz.prog 163 #[.pointer (some ⟨b,0,none⟩),.slice a' ps.length cap',.agg #[.int .i64 (p.1:Int),.int .i64 (p.2:Int)]] n.w fun e w'=>e=.returned (.int .i64 (dJ ws ps p))/\Below n.w.heap.size n.w w':=by
 obtain⟨s,hall⟩:=hsh.1 src hs
 exact nO W0 n.w b ws sh a' cap' ps p s (h.below n.h) (hW.trans (n.h.mono hW.size)) hok hl hin (hr'.below n.h) (hall p hp)
set_option maxHeartbeats 1200000 in
theorem Ej (W0 w:World)(b:Nat)(ws:List (List af))(sh:List (List aW))(a':Option Addr)(cap':Nat)(ps:List Int)(h:Ew W0 w b ws sh)(hW:Below W0.heap.size W0 w)(hok:OkW ws)(hl:ps.length=ws.length)(hin:kH ws ps)(hr':iC w a' ps)(hsh:IL ws sh) :
  Calls Tryz.prog 137 #[.pointer (some ⟨b,0,none⟩),.slice a' ps.length cap'] w fun e w'=>rU (yt ws ps) e/\Below w.heap.size w w':=by
 have HIN:Hid (kH ws ps):=hin
 have HOK:Hid (OkW ws):=hok
 have HSH:Hid (IL ws sh):=hsh
 have HC:Hid (Ew W0 w b ws sh):=h
 have HL:Hid (ps.length=ws.length):=hl
 have HZ:Hid (iC w a' ps):=hr'
 have hshl:=hsh.2.2
 obtain⟨hb,a,c,a2,c2,e0,hc,e1,hc2,hv,hg⟩:=h
 clear hin hok hsh hv hc hl hr'
 go_enter Tryz.func137,Tryz.ntmps137
 go_wp2_with fail
 go_loopw [14] (fun i wr=>∃k:Nat,k<=sh.length/\i=.int .i64 k/\Hid (∀j,(h:j<sh.length)->j<k->lu ws ps sh[j] sh[j].length)/\Below w.heap.size w wr) (fun i _=>sh.length-(intOf i).toNat)
 case atStart=>exact⟨0,Nat.zero_le _,rfl,fun _ _ h=>absurd h (Nat.not_lt_zero _),Below.refl _ _⟩
 case round=>
  obtain⟨k,hk,rfl,HI,hbl⟩:=hrel
  by_cases hlt:k<sh.length
  ·obtain⟨b1,o1,rfl,hb1,s1,t1,f1,ht1,hp⟩:=hg.below hbl k hlt
   have k0:(0:Int)<=(k:Int):=by omega
   have k1:(k:Int)<(sh.length:Int):=by omega
   have hsrc:=HSH.out.2.1 sh[k] (List.getElem_mem hlt)
   have hs1:=hsrc.1
   have hs2:=hsrc.2
   have hmem:sh[k]∈sh:=List.getElem_mem hlt
   clear hsrc
   go_wp2_with fail
   go_loopw [20] (fun i2 wr2=>∃j:Nat,j<=sh[k].length/\i2=.int .i64 j/\Hid (lu ws ps sh[k] j)/\Below wr.heap.size wr wr2) (fun i2 _=>sh[k].length-(intOf i2).toNat)
   case atStart=>exact⟨0,Nat.zero_le _,rfl,fun _ _ h=>absurd h (Nat.not_lt_zero _),Below.refl _ _⟩
   case round=>
    obtain⟨j,hj,rfl,HJ,hbl2⟩:=hrel
    have B2:Below w.heap.size w wr:=hbl.trans (hbl2.mono hbl.size)
    by_cases hjlt:j<sh[k].length
    ·obtain⟨b2,o2,rfl,hb2,f2,f3⟩:=hp.below hbl2 j hjlt
     obtain⟨b3,o3,e3,_,f4,f5⟩:=hp.below hbl2 0 (by omega)
     cases e3
     have j0:(0:Int)<=(j:Int):=by omega
     have j1:(j:Int)<(sh[k].length:Int):=by omega
     have j2:(0:Int)<(sh[k].length:Int):=by omega
     go_wp2_with fail
     simp only[Nat.zero_mul,Nat.add_zero]at f4 f5
     have hb0:Below wr.heap.size wr (wr.alloc (.cells #[.int .i64 (sh[k][j].1:Int),.int .i64 (sh[k][j].2:Int)] 231)):=(Below.refl _ _).alloc (Nat.le_refl _) _
     have hlt0:=bP wr (.cells #[.int .i64 (sh[k][j].1:Int),.int .i64 (sh[k][j].2:Int)] 231)
     have d0:=box0 wr (.int .i64 (sh[k][j].1:Int)) (.int .i64 (sh[k][j].2:Int)) 231
     have d1:=box1 wr (.int .i64 (sh[k][j].1:Int)) (.int .i64 (sh[k][j].2:Int)) 231
     generalize wr.alloc (.cells #[.int .i64 (sh[k][j].1:Int),.int .i64 (sh[k][j].2:Int)] 231)=W at *
     have B3:Below w.heap.size w W:=B2.trans (hb0.mono B2.size)
     have hne:=dA.some W
     have n0:∀n:dA W,n.w.cell? ⟨wr.heap.size,0,none⟩=some (.int .i64 (sh[k][j].1:Int)):=fun n=>n.cell hlt0 d0
     have n1:∀n:dA W,n.w.cell? ⟨wr.heap.size,1,none⟩=some (.int .i64 (sh[k][j].2:Int)):=fun n=>n.cell hlt0 d1
     have n2:∀n:dA W,n.w.cell? ⟨b2,o2,none⟩=some (.int .i64 (sh[k][0].1:Int)):=fun n=>n.cell (Nat.lt_of_lt_of_le hb2 hb0.size) (ae hb0 hb2 f4)
     have n3:∀n:dA W,n.w.cell? ⟨b2,o2+1,none⟩=some (.int .i64 (sh[k][0].2:Int)):=fun n=>n.cell (Nat.lt_of_lt_of_le hb2 hb0.size) (ae hb0 hb2 f5)
     have c1:∀n:dA W,Calls Tryz.prog 163 #[.pointer (some ⟨b,0,none⟩),.slice a' ps.length cap',.agg #[.int .i64 (sh[k][j].1:Int),.int .i64 (sh[k][j].2:Int)]] n.w fun e w'=>e=.returned (.int .i64 (dJ ws ps sh[k][j]))/\Below n.w.heap.size n.w w':=
      fun n=>uo (HC.out.below B3) (hW.trans (B3.mono hW.size)) HOK.out HL.out HIN.out (HZ.out.below B3) HSH.out.1 hmem (List.getElem_mem hjlt) n
     have c3:∀n:dA W,Calls Tryz.prog 163 #[.pointer (some ⟨b,0,none⟩),.slice a' ps.length cap',.agg #[.int .i64 (sh[k][0].1:Int),.int .i64 (sh[k][0].2:Int)]] n.w fun e w'=>e=.returned (.int .i64 (dJ ws ps sh[k][0]))/\Below n.w.heap.size n.w w':=
      fun n=>uo (HC.out.below B3) (hW.trans (B3.mono hW.size)) HOK.out HL.out HIN.out (HZ.out.below B3) HSH.out.1 hmem (List.getElem_mem (by omega)) n
     clear f2 f3 f4 f5 d0 d1
     have HE:Hid (dJ ws ps sh[k][j]=dJ ws ps sh[k][0]->lu ws ps sh[k] (j+1)):=fun he=>BV HJ.out hjlt (by omega) he
     have HNE:Hid (¬dJ ws ps sh[k][j]=dJ ws ps sh[k][0]->¬yt ws ps):=fun he=>KI HOK.out HL.out HIN.out HSH.out.1 hlt hjlt (by omega) he
     clear HIN HOK HSH HC HL HZ HJ hp f1 hmem hg
     generalize dJ ws ps sh[k][j]=va at *
     generalize dJ ws ps sh[k][0]=vb at *
     generalize (sh[k][j].1:Int)=pa at *
     generalize (sh[k][j].2:Int)=pb at *
     generalize (sh[k][0].1:Int)=qa at *
     generalize (sh[k][0].2:Int)=qb at *
     by_cases he:va=vb
     ·have HST:Hid (lu ws ps sh[k] (j+1)):=HE.out he
      clear HE HNE
      have he':(va != vb)=false:=by rw[bne_eq_false_iff_eq];exact he
      refine aF (by kernel_rfl) (by kernel_rfl) ?_
      iterate 4 (go_big_quiet_step ((go_at_call 163;exact Calls.lat_of (c1 _))))
      iterate 7 (go_big_quiet_step ((go_at_call 163;exact Calls.lat_of (c3 _))))
      refine wpQuiet_nil ?_
      rintro _ ⟨nq,rfl⟩
      go_wp2_with fail
      exact⟨⟨j+1,by omega,by go_num,HST,(hbl2.trans (hb0.mono hbl2.size)).trans (nq.h.mono (Nat.le_trans hbl2.size hb0.size))⟩,by simp[intOf];omega⟩
     ·have HN:Hid (¬yt ws ps):=HNE.out he
      clear HE HNE
      have he':(va != vb)=true:=by rw[bne_iff_ne];exact he
      refine aF (by kernel_rfl) (by kernel_rfl) ?_
      iterate 4 (go_big_quiet_step ((go_at_call 163;exact Calls.lat_of (c1 _))))
      iterate 7 (go_big_quiet_step ((go_at_call 163;exact Calls.lat_of (c3 _))))
      refine wpQuiet_nil ?_
      rintro _ ⟨nq,rfl⟩
      go_wp2_with fail
      go_ret
      exact⟨ai HN.out,B3.trans (nq.h.mono B3.size)⟩
    ·have HST:Hid (∀q,(h:q<sh.length)->q<k+1->lu ws ps sh[q] sh[q].length):=fun q hq hlt'=>by
      by_cases e:q=k
      ·subst e
       exact fun i hi _ h0=>HJ.out i hi (by omega) h0
      ·exact HI.out q hq (by omega)
     go_wp2_with fail
     exact⟨⟨k+1,by omega,by go_num,HST,B2⟩,by simp[intOf];omega⟩
  ·have HF:Hid (yt ws ps):=Dq HOK.out HL.out HIN.out HSH.out.1 (fun j hj=>HI.out j hj (by omega))
   go_wp2_with fail
   go_ret
   exact⟨dE HF.out,hbl⟩
end Go.Proofs.YtpfhegengmlkmabGreatDoor
namespace Go.Proofs.YtpfhegengmlkmabGreatDoor
open Go.RowKit Go.BigFrame
theorem mY.keep {w w':World}{B b n:Nat}{D:DataW Value}{V:ByteArray->Value}{S:ByteArray->List aW}(h:mY w B b n D V S)(hb:Below w.heap.size w w'):mY w' B b n D V S:=
 ⟨h.own.kept (grown_below hb none) (by simp),h.lt,h.eq,h.has,fun s=>dh (h.row s) hb,h.far⟩
theorem Tryz.infoP:(Tryz.prog.info? 231).map (fun i=>(i.zero,i.size,i.bytes))=some (some (.agg #[.int .i64 0,.int .i64 0]),2,16):=by kernel_rfl
theorem nY {o:Oper}{a:Act}{w:World}{K:Act->World->Prop}{Q:Exit->Act->World->Prop}(s x:Operand)
  (ho:o.op=.call { callee:=.builtin .append,args:=#[s,x],argTypes:=#[228,228] }) (base:Nat) (v:Value) (l:List aW) (hs:a.eval s=v) (hg:jd w base v l) (hbase:base<=w.heap.size)
  (ad:Nat) (p:aW) (hx:a.eval x=.slice (some ⟨ad,0,none⟩) 1 1) (c0:w.cell? ⟨ad,0,none⟩=some (.int .i64 (p.1:Int))) (c1:w.cell? ⟨ad,1,none⟩=some (.int .i64 (p.2:Int))) (hl:l.length<=1048576)
  (h:∀v' w',w'.ownsRow base 231 2 v' (l.length+1) (iR l++[.int .i64 (p.1:Int),.int .i64 (p.2:Int)])->w.grownBy w' v.ownBlock->(v'.ownBlock=v.ownBlock∨v'.ownBlock=some w.heap.size)->K (a.put o.dst v') w'):o.wp Tryz.prog a w K Q:=by
 obtain⟨i0,hi,hz0,hz1,hz2⟩:=info_parts Tryz.infoP
 obtain⟨v',w',hr,h2,h3,_,h5⟩:=run_append_own_at (P:=Tryz.prog) w base 228 o.type 231 i0 (.agg #[.int .i64 0,.int .i64 0]) 2 16 Tryz.underlying228 hi hz0 hz1 hz2 rfl (by decide) v l.length (iR l) hg ⟨ad,0,none⟩ 1 1 [.int .i64 (p.1:Int),.int .i64 (p.2:Int)] rfl (by
   intro j u hj
   match j,hj with
   |0,hj=>simp at hj;subst hj;exact c0
   |1,hj=>simp at hj;subst hj;exact c1) (by simp[Value.oneCell']) (by unfold maxLen;omega) (by omega) hbase
 unfold Oper.wp execOp
 simp only[ho,resolve,invoke,builtin,Sem.run_bind,Sem.run_pure,Result.andThen_ok,List.map_toArray,List.map_cons,List.map_nil,hs,hx,hr]
 exact h _ w' h2 h3 h5
theorem Tryz.keyed:Maps.Keyed Tryz.prog 9:=Maps.string_keyed Tryz.underlying9
theorem rO (s:ByteArray)(hs:s.size<=maxLen):keyOf Tryz.prog 9 (.string s)=some (lw s):=by
 rw[keyOf_string Tryz.underlying9]
 simp[mapKey,Tryz.underlying9,lw,hs]
theorem Tryz.zeroSp (w:World):(zeroValue 228).run Tryz.prog w=.ok (.slice none 0 0) w:=by kernel_rfl
theorem nU {o:Oper}{a:Act}{w:World}{K:Act->World->Prop}{Q:Exit->Act->World->Prop}(m x y:Operand)(hop:o.op=Op.mapUpdate 247 m x y)(b n:Nat)(D:DataW Value)(hm:a.eval m=.map (some b))(hown:w.ownsMap Tryz.prog 9 uk b n D)(hn:n<maxLen)(s:ByteArray)(hs:s.size<=maxLen)(v:Value)(hx:a.eval x=.string s)(hy:a.eval y=v)
  (h:∀w',w'.ownsMap Tryz.prog 9 uk b (n+1) (D.put (lw s) (.held v))->w.grownBy w' (some b)->K (a.put o.dst undef) w'):o.wp Tryz.prog a w K Q:=by
 obtain⟨w',hrun,r1,r2⟩:=hown.update Tryz.keyed Tryz.underlying247 hn (key:=.string s) (val:=v) (kl:=lw s) (d:=.held v) (ps:=[]) (rO s hs) rfl
 unfold Oper.wp
 simp[execOp,hop,hm,hx,hy,hrun,Result.andThen]
 exact h w' r1 r2
theorem nN {w:World}{b n:Nat}{D:DataW Value}{V:ByteArray->Value}{S:ByteArray->List aW}{B:Nat}(h:mY w B b n D V S)(s:ByteArray)(hs:s.size<=maxLen):(Instr.lookup 247 (.map (some b)) (.string s) false).run Tryz.prog w=.ok (V s) w:=by
 obtain⟨v,ps,hrun,hv⟩:=h.own.lookup Tryz.keyed Tryz.underlying247 (Tryz.zeroSp w) (zd:=.held (.slice none 0 0)) (zp:=[]) rfl (rO s hs)
 unfold uk at hv
 simp only[Option.some.injEq,Prod.mk.injEq]at hv
 rw[h.eq s]at hv
 obtain rfl:v=V s:=by simpa using hv.1
 exact hrun
def eH (ws:List (List af))(k j:Nat)(S:ByteArray->List aW):Prop:=(∀s p,p∈S s->jW ws s p)/\∀s p,jW ws s p->(p.1<k∨(p.1=k/\p.2<j))->p∈S s
theorem yx (ws:List (List af)):eH ws 0 0 (fun _=>[]):=⟨fun s p h=>by simp at h,fun s p _ h=>by omega⟩
theorem eH.empty {ws:List (List af)}{k:Nat}{S:ByteArray->List aW}(h:eH ws k 0 S)(hk:k<ws.length)(h0:ws[k].length=0):eH ws (k+1) 0 S:=⟨h.1,fun s p hp hlt=>by
 rcases Nat.lt_or_ge p.1 k with hl|hl
 ·exact h.2 s p hp (.inl hl)
 ·obtain⟨_,h3,_⟩:=hp
  have e:p.1=k:=by omega
  exfalso
  simp only[e]at h3
  omega⟩
theorem eH.whole {ws:List (List af)}{k:Nat}{S:ByteArray->List aW}(hk:k<ws.length)(h0:0<ws[k].length)(h:eH ws k (ws[k][ws[k].length-1]).2.length S):eH ws (k+1) 0 S:=⟨h.1,fun s p hp hlt=>by
 rcases Nat.lt_or_ge p.1 k with hl|hl
 ·exact h.2 s p hp (.inl hl)
 ·have e:p.1=k:=by omega
  have hp2:=hp
  obtain⟨_,_,h4,_⟩:=hp2
  refine h.2 s p hp (.inr ⟨e, ?_⟩)
  simp only[e]at h4
  exact h4⟩
open Classical in
theorem eH.step {ws:List (List af)}{k j:Nat}{S:ByteArray->List aW}(h:eH ws k j S)(hk:k<ws.length)(h0:0<ws[k].length)(hj:j<(ws[k][ws[k].length-1]).2.length){s:ByteArray}(hs:((ws[k][ws[k].length-1]).2[j]).1=s):eH ws k (j+1) (fun t=>if t=s then S s++[(k,j)]else S t):=by
 have hnew:jW ws s (k,j):=⟨hk,h0,hj,hs⟩
 refine⟨fun t p hp=>?_,fun t p hp hlt=>?_⟩
 ·by_cases e:t=s
  ·subst e
   simp only[↓reduceIte]at hp
   rcases List.mem_append.1 hp with hp|hp
   ·exact h.1 _ p hp
   ·obtain rfl:p=(k,j):=by simpa using hp
    exact hnew
  ·simp only[if_neg e]at hp
   exact h.1 t p hp
 ·by_cases hq:p.1<k∨(p.1=k/\p.2<j)
  ·have hm:=h.2 t p hp hq
   by_cases e:t=s
   ·subst e
    simp only[↓reduceIte]
    exact List.mem_append_left _ hm
   ·simp only[if_neg e]
    exact hm
  ·have e1:p=(k,j):=Prod.ext (by show p.1=k;omega) (by show p.2=j;omega)
   subst e1
   obtain⟨_,_,_,hs'⟩:=hp
   simp only at hs'
   have e:t=s:=by rw[<- hs',hs]
   simp only[if_pos e]
   exact List.mem_append_right _ (by simp)
def qh (ss:List (List UInt8)):List ByteArray:=ss.map fun l=>⟨l.toArray⟩
theorem Ai (ss:List (List UInt8)):ss.map encStr=(qh ss).map .string:=by simp[qh,Function.comp_def]
theorem mY.listed {w:World}{B b n:Nat}{D:DataW Value}{V:ByteArray->Value}{S:ByteArray->List aW}(h:mY w B b n D V S){ss:List (List UInt8)}(hp:ss.Perm (strKeys D)){s:ByteArray}(hs:S s≠[]):s∈qh (ss.mergeSort (fun x y=>decide (x<=y))):=by
 have h1:=(h.has s).2 hs
 obtain⟨es,rfl,_⟩:=World.ownsMap.keysOf h.own
 rw[Maps.has_eq,List.any_eq_true]at h1
 obtain⟨p,hm,hk⟩:=h1
 have e:p.1=lw s:=by
  by_cases e:p.1=lw s
  ·exact e
  ·rw[Maps.sameKey_ne e]at hk
   cases hk
 have h2:s.data.toList∈strKeys (DataW.map es):=List.mem_map.2 ⟨p,hm,by rw[e];rfl⟩
 have h3:=(List.mergeSort_perm ss (fun x y=>decide (x<=y))).mem_iff.2 (hp.mem_iff.2 h2)
 exact List.mem_map.2 ⟨_,h3,by simp⟩
def kK (w:World)(B:Nat)(v:Value)(L:List (List aW×Value)):Prop:=w.ownsRow B 228 1 v L.length (L.map (·.2))/\∀p∈L,jd w B p.2 p.1
theorem Ee (w:World)(B:Nat):kK w B (.slice none 0 0) []:=⟨World.ownsRow_nil _ _ _ _,by simp⟩
theorem kK.keep {w w':World}{B:Nat}{v:Value}{L:List (List aW×Value)}(h:kK w B v L)(hb:Below w.heap.size w w'):kK w' B v L:=⟨dh h.1 hb,fun p hp=>dh (h.2 p hp) hb⟩
theorem kK.snoc {w w':World}{B:Nat}{v v' y:Value}{L:List (List aW×Value)}{l:List aW}(h:kK w B v L)(hl:jd w B y l)(hne:231≠228)
  (h':w'.ownsRow B 228 1 v' (L.length+1) ((L.map (·.2))++[y])) (hg:w.grownBy w' v.ownBlock):kK w' B v' (L++[(l,y)]):=by
 refine⟨?_,fun p hp=>?_⟩
 ·rw[List.length_append,List.map_append]
  exact h'
 ·rcases List.mem_append.1 hp with hp|hp
  ·exact World.ownsRow.kept (h.2 p hp) hg (dm (h.2 p hp) h.1 hne)
  ·obtain rfl:p=(l,y):=by simpa using hp
   exact World.ownsRow.kept hl hg (dm hl h.1 hne)
theorem mY.kept {w w':World}{B b n k:Nat}{D:DataW Value}{V:ByteArray->Value}{S:ByteArray->List aW}{v:Value}{xs:List Value}(h:mY w B b n D V S)(hv:w.ownsRow B 228 1 v k xs)(hg:w.grownBy w' v.ownBlock)(hne:231≠228):mY w' B b n D V S:=
 ⟨h.own.kept hg (fun e=>by have:=aT hv _ e.symm;have:=h.lt;omega),h.lt,h.eq,h.has,fun s=>World.ownsRow.kept (h.row s) hg (dm (h.row s) hv hne),h.far⟩
theorem kK.row {w:World}{B:Nat}{v:Value}{L:List (List aW×Value)}(h:kK w B v L):∃a cap,v=.slice a L.length cap/\L.length<=cap/\Eg w a (L.map (·.1)):=by
 rcases h.1.2 with⟨rfl,h0⟩|⟨g,cap,cur,rfl,hB,hh,hn,_⟩
 ·exact⟨none,0,by rw[h0],by omega,fun k hk=>by rw[List.length_map]at hk;omega⟩
 ·have hlt:g<w.heap.size:=(Array.getElem?_eq_some_iff.1 hh).1
  refine⟨_,cap,rfl,hn,fun k hk=>⟨g,0,rfl,hlt, ?_⟩⟩
  rw[List.length_map]at hk
  obtain⟨a,c,e,hc,hr⟩:=(h.2 L[k] (List.getElem_mem hk)).row
  refine⟨a,c, ?_,by simpa using hc,by simpa using hr⟩
  rw[Nat.zero_add,World.ownsRow.cellAt h.1 _ (by omega)]
  simp[hk,e]
theorem Tryz.infoQ:(Tryz.prog.info? 228).map (fun i=>(i.zero,i.size,i.bytes))=some (some (.slice none 0 0),1,24):=by kernel_rfl
theorem uz:231≠228:=by decide
theorem DC:9≠228:=by decide
theorem jd.keep {w w':World}{B:Nat}{v:Value}{l:List aW}(h:jd w B v l)(hb:Below w.heap.size w w'):jd w' B v l:=dh h hb
theorem aI.beside {w w':World}{B k:Nat}{v y:Value}{l:List ByteArray}{xs:List Value}(h:aI w B v l)(hv:w.ownsRow B 228 1 y k xs)(hg:w.grownBy w' y.ownBlock):aI w' B v l:=World.ownsRow.kept h hg (dm h hv DC)
def fU (S:ByteArray->List aW)(names:List ByteArray)(i:Nat)(L:List (List aW×Value)):Prop:=
 (∀p∈L,∃s,p.1=S s/\1<(S s).length)/\∀q,(hq:q<names.length)->q<i->1<(S names[q]).length->∃p∈L,p.1=S names[q]
theorem fU.skip {S:ByteArray->List aW}{names:List ByteArray}{i:Nat}{L:List (List aW×Value)}(h:fU S names i L)(hi:i<names.length)(hn:¬1<(S names[i]).length):fU S names (i+1) L:=⟨h.1,fun q hq hlt h1=>by
 by_cases e:q=i
 ·subst e;exact absurd h1 hn
 ·exact h.2 q hq (by omega) h1⟩
theorem fU.take {S:ByteArray->List aW}{names:List ByteArray}{i:Nat}{L:List (List aW×Value)}(h:fU S names i L)(hi:i<names.length)(hn:1<(S names[i]).length)(y:Value):fU S names (i+1) (L++[(S names[i],y)]):=by
 refine⟨fun p hp=>?_,fun q hq hlt h1=>?_⟩
 ·rcases List.mem_append.1 hp with hp|hp
  ·exact h.1 p hp
  ·obtain rfl:p=(S names[i],y):=by simpa using hp
   exact⟨names[i],rfl,hn⟩
 ·by_cases e:q=i
  ·subst e
   exact⟨(S names[q],y),by simp,rfl⟩
  ·obtain⟨p,hp,he⟩:=h.2 q hq (by omega) h1
   exact⟨p,List.mem_append_left _ hp,he⟩
theorem fU.shared {ws:List (List af)}{S:ByteArray->List aW}{names:List ByteArray}{L:List (List aW×Value)}(h:fU S names names.length L)(hS:eH ws ws.length 0 S)(hn:∀s,S s≠[]->s∈names)(h72:∀s,(S s).length<=1000)(hL:L.length<=1000):IL ws (L.map (·.1)):=by
 refine⟨⟨fun src hs=>?_,fun s i k j l hik h1 h2=>?_⟩,fun src hs=>?_,by rw[List.length_map];exact hL⟩
 ·obtain⟨p,hp,rfl⟩:=List.mem_map.1 hs
  obtain⟨s,e,_⟩:=h.1 p hp
  exact⟨s,fun q hq=>hS.1 s q (by rw[<- e];exact hq)⟩
 ·have m1:=hS.2 s _ h1 (.inl h1.1)
  have m2:=hS.2 s _ h2 (.inl h2.1)
  have hlen:1<(S s).length:=by
   match hS':S s,m1,m2 with
   |[],m1,_=>simp at m1
   |[x],m1,m2=>
    have e1:(i,j)=x:=by simpa using m1
    have e2:(k,l)=x:=by simpa using m2
    rw[<- e1]at e2
    exact absurd (Prod.mk.inj e2).1.symm hik
   |_::_::_,_,_=>simp
  obtain⟨q,hq,e⟩:=List.mem_iff_getElem.1 (hn s (fun e=>by rw[e]at hlen;simp at hlen))
  obtain⟨p,hp,he⟩:=h.2 q hq hq (by rw[e];exact hlen)
  rw[e]at he
  exact⟨p.1,List.mem_map.2 ⟨p,hp,rfl⟩,by rw[he];exact m1,by rw[he];exact m2⟩
 ·obtain⟨p,hp,rfl⟩:=List.mem_map.1 hs
  obtain⟨s,e,h1⟩:=h.1 p hp
  rw[e]
  exact⟨h1,h72 s⟩
end Go.Proofs.YtpfhegengmlkmabGreatDoor
