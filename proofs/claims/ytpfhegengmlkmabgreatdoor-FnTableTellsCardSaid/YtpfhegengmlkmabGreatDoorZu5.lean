/- Texts of this claim. -/
import Derived.Laws.IdiomStrings
import Derived.Test.YtpfhegengmlkmabGreatDoorZu3
namespace Go.Proofs.YtpfhegengmlkmabGreatDoor
open Go.RowKit Go.BigFrame
def Safe (w:World)(lo hi:Nat)(a:Option Addr)(m:List (ByteArray×Int)):Prop:=
 m=[]∨∃g,a=some ⟨g,0,none⟩/\lo<=g/\g<hi/\Own w g m
theorem Safe.row {w:World}{lo hi:Nat}{a:Option Addr}{m:List (ByteArray×Int)}(h:Safe w lo hi a m):Row w a m:=by
 rcases h with rfl|⟨g,rfl,_,_,ho⟩
 ·exact fun k hk=>absurd hk (Nat.not_lt_zero k)
 ·exact ho.row
theorem Safe.below {w w':World}{lo hi:Nat}{a:Option Addr}{m:List (ByteArray×Int)}(h:Safe w lo hi a m)(hb:Below w.heap.size w w'):Safe w' lo hi a m:=by
 rcases h with rfl|⟨g,rfl,h1,h2,ho⟩
 ·exact .inl rfl
 ·exact .inr ⟨g,rfl,h1,h2,ho.below hb⟩
theorem az.safe {w:World}{B:Nat}{v:Value}{m:List (ByteArray×Int)}(h:az w B v m):∃a cap,v=.slice a m.length cap/\Safe w B w.heap.size a m:=by
 rcases h.form with⟨hv,rfl⟩|⟨g,cap,hv,hB,ho⟩
 ·exact⟨_,_,hv,.inl rfl⟩
 ·exact⟨_,_,hv,.inr ⟨g,rfl,hB,ho.lt,ho⟩⟩
structure aJ (lo hi:Nat) (w w':World):Prop where
 os:w'.os=w.os
 tape:w'.tape=w.tape
 output:w'.output=w.output
 size:w.heap.size<=w'.heap.size
 block:∀k,k<w.heap.size->(k<lo∨hi<=k)->w'.heap[k]?=w.heap[k]?
theorem aJ.refl (lo hi:Nat)(w:World):aJ lo hi w w:=⟨rfl,rfl,rfl,Nat.le_refl _,fun _ _ _=>rfl⟩
theorem But.span {b lo hi:Nat}{w w':World}(h:But b w w')(h1:lo<=b)(h2:b<hi):aJ lo hi w w':=⟨h.os,h.tape,h.output,h.size,fun k hk hn=>h.block k hk (by omega)⟩
theorem aJ.below {lo hi B:Nat}{w w':World}(h:aJ lo hi w w')(hb:B<=lo)(hw:B<=w.heap.size):Below B w w':=
 ⟨h.os,h.tape,h.output,h.size,fun k hk=>h.block k (by omega) (by omega)⟩
theorem Safe.span {w w':World}{lo hi lo' hi':Nat}{a:Option Addr}{m:List (ByteArray×Int)}(h:Safe w lo hi a m)(hs:aJ lo' hi' w w')(hd:hi<=lo'∨hi'<=lo):Safe w' lo hi a m:=by
 rcases h with rfl|⟨g,rfl,h1,h2,ho⟩
 ·exact .inl rfl
 ·refine .inr ⟨g,rfl,h1,h2, ?_⟩
  have hlt:=ho.lt
  obtain⟨m,f,h',hf⟩:=ho
  exact⟨m,f,h'.of_block (hs.block g hlt (by omega)),hf⟩
end Go.Proofs.YtpfhegengmlkmabGreatDoor
