/- Texts of this claim. -/
import Derived.Test.YtpfhegengmlkmabGreatDoorZu11
namespace Go.Proofs.YtpfhegengmlkmabGreatDoor
open Go.RowKit Go.BigFrame
theorem wW {w w':World}{k:Nat}(h:w.grownBy w' (some k)):aJ k (k+1) w w':=⟨h.os,h.tape,h.output,h.size,fun i hi hn=>h.block i hi (by intro e;cases e;omega)⟩
theorem jH.grown {w w':World}{lo hi:Nat}{a:Option Addr}{l:List af}{r:Option Nat}(h:jH w lo hi a l)(hg:w.grownBy w' r)(hd:∀k,r=some k->k<lo∨hi<=k):jH w' lo hi a l:=by
 cases r with
 |none=>exact h.span (lo':=0) (hi':=0) ⟨hg.os,hg.tape,hg.output,hg.size,fun i hi _=>hg.block i hi (by simp)⟩ (by omega)
 |some k=>exact h.span (wW hg) (by have:=hd k rfl;omega)
structure aS where
 l:List af
 v:Value
 lo:Nat
 hi:Nat
def aS.In (w:World)(B:Nat)(p:aS):Prop:=(∃a c,p.v=.slice a p.l.length c/\p.l.length<=c/\jH w p.lo p.hi a p.l)/\B<=p.lo/\p.lo<=p.hi/\p.hi<=w.heap.size
theorem aS.In.below {w w':World}{B:Nat}{p:aS}(h:p.In w B)(hb:Below w.heap.size w w'):p.In w' B:=by
 obtain⟨⟨a,c,h1,h2,h3⟩,h4,h5,h6⟩:=h
 exact⟨⟨a,c,h1,h2,h3.below hb⟩,h4,h5,Nat.le_trans h6 hb.size⟩
theorem aS.In.grown {w w':World}{B:Nat}{p:aS}{r:Option Nat}(h:p.In w B)(hg:w.grownBy w' r)(hd:∀k,r=some k->k<p.lo∨p.hi<=k):p.In w' B:=by
 obtain⟨⟨a,c,h1,h2,h3⟩,h4,h5,h6⟩:=h
 exact⟨⟨a,c,h1,h2,h3.grown hg hd⟩,h4,h5,Nat.le_trans h6 hg.size⟩
theorem bD.winY {w:World}{B:Nat}{v:Value}{l:List af}(h:bD w B v l)(hB:B<=w.heap.size):(aS.mk l v B w.heap.size).In w B:=by
 obtain⟨a,c,h1,h2,h3⟩:=h.safe
 exact⟨⟨a,c,h1,h2,h3⟩,Nat.le_refl _,hB,Nat.le_refl _⟩
structure ed (w:World) (B:Nat) (v:Value) (L:List aS):Prop where
 own:w.ownsRow B 129 1 v L.length (L.map (·.v))
 at_:∀p∈L,p.In w B
 far:∀p∈L,∀k,v.ownBlock=some k->k<p.lo∨p.hi<=k
 dis:L.Pairwise fun p q=>p.hi<=q.lo
theorem qg (w:World)(B:Nat):ed w B (.slice none 0 0) []:=⟨World.ownsRow_nil _ _ _ _,by simp,by simp,List.Pairwise.nil⟩
theorem ed.keep {w w':World}{B:Nat}{v:Value}{L:List aS}(h:ed w B v L)(hb:Below w.heap.size w w'):ed w' B v L:=⟨dh h.own hb,fun p hp=>(h.at_ p hp).below hb,h.far,h.dis⟩
theorem ed.grown {w w':World}{B:Nat}{v:Value}{L:List aS}{r:Option Nat}(h:ed w B v L)(hg:w.grownBy w' r)(hv:v.ownBlock=none∨v.ownBlock≠r)(hd:∀p∈L,∀k,r=some k->k<p.lo∨p.hi<=k):ed w' B v L:=
 ⟨World.ownsRow.kept h.own hg hv,fun p hp=>(h.at_ p hp).grown hg (hd p hp),h.far,h.dis⟩
theorem df {w:World}{B e size n q:Nat}{v:Value}{xs:List Value}(h:w.ownsRow B e size v n xs)(hq:q<B)(i:Nat)(z:Value):(w.setCell ⟨q,i,none⟩ z).ownsRow B e size v n xs:=by
 obtain⟨hl,h|⟨g,cap,cur,hv,hgB,hh,r⟩⟩:=h
 ·exact⟨hl,.inl h⟩
 ·exact⟨hl,.inr ⟨g,cap,cur,hv,hgB,(Below.heap_setCell _ _ _ _ (by simp only;omega)).trans hh,r⟩⟩
theorem ed.set {w:World}{B q:Nat}{v:Value}{L:List aS}(h:ed w B v L)(hq:q<B)(i:Nat)(z:Value):ed (w.setCell ⟨q,i,none⟩ z) B v L:=by
 refine⟨df h.own hq i z,fun p hp=>?_,h.far,h.dis⟩
 obtain⟨⟨a,c,h1,h2,h3⟩,h4,h5,h6⟩:=h.at_ p hp
 exact⟨⟨a,c,h1,h2,h3.span ((aJ.refl q (q+1) w).setCell (Nat.le_refl _) (Nat.lt_succ_self _) i z) (by omega)⟩,h4,h5,by simpa using h6⟩
theorem ed.snoc {w1 w2:World}{B:Nat}{v v':Value}{L:List aS}{p:aS}(h:ed w1 B v L)(hw:∀q∈L,q.hi<=p.lo)(hp:p.In w1 B)(hpv:∀k,v.ownBlock=some k->k<p.lo∨p.hi<=k)
  (ho:w2.ownsRow B 129 1 v' (L.length+1) ((L.map (·.v))++[p.v])) (hg:w1.grownBy w2 v.ownBlock) (hloc:v'.ownBlock=v.ownBlock∨v'.ownBlock=some w1.heap.size):ed w2 B v' (L++[p]):=by
 have hz:∀q∈L,q.hi<=w1.heap.size:=fun q hq=>(h.at_ q hq).2.2.2
 have hzp:=hp.2.2.2
 refine⟨by rw[List.length_append,List.map_append];exact ho,fun q hq=>?_,fun q hq k hk=>?_, ?_⟩
 ·rcases List.mem_append.1 hq with hq|hq
  ·exact(h.at_ q hq).grown hg (h.far q hq)
  ·obtain rfl:q=p:=by simpa using hq
   exact hp.grown hg hpv
 ·rcases List.mem_append.1 hq with hq|hq
  ·rcases hloc with e|e
   ·exact h.far q hq k (by rw[<- e];exact hk)
   ·rw[e]at hk;cases hk;exact .inr (hz q hq)
  ·obtain rfl:q=p:=by simpa using hq
   rcases hloc with e|e
   ·exact hpv k (by rw[<- e];exact hk)
   ·rw[e]at hk;cases hk;exact .inr hzp
 ·rw[List.pairwise_append]
  exact⟨h.dis,List.pairwise_singleton _ _,fun q hq r hr=>by
   obtain rfl:r=p:=by simpa using hr
   exact hw q hq⟩
theorem ed.row {w:World}{B:Nat}{v:Value}{L:List aS}(h:ed w B v L):∃a cap,v=.slice a L.length cap/\L.length<=cap/\iF w a (L.map (·.l)):=by
 rcases h.own.2 with⟨rfl,h0⟩|⟨g,cap,cur,rfl,hB,hh,hn,_⟩
 ·exact⟨none,0,by rw[h0],by omega,fun k hk=>by rw[List.length_map]at hk;omega⟩
 ·have hlt:g<w.heap.size:=(Array.getElem?_eq_some_iff.1 hh).1
  refine⟨_,cap,rfl,hn,fun k hk=>⟨g,0,rfl,hlt, ?_⟩⟩
  rw[List.length_map]at hk
  obtain⟨⟨a,c,e,hc,hs⟩,_⟩:=h.at_ L[k] (List.getElem_mem hk)
  refine⟨a,c, ?_,by simpa using hc,by simpa using hs.row⟩
  rw[Nat.zero_add,World.ownsRow.cellAt h.own _ (by omega)]
  simp[hk,e]
end Go.Proofs.YtpfhegengmlkmabGreatDoor
