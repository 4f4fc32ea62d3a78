/- Texts of this claim. -/
import Derived.Test.YtpfhegengmlkmabGreatDoorZu3
namespace Go.Proofs.YtpfhegengmlkmabGreatDoor
open Go.RowKit Go.BigFrame
def dQ (w:World)(a:Option Addr)(l:List ByteArray):Prop:=
 ∀k,(h:k<l.length)->∃b o,a=some ⟨b,o,none⟩/\b<w.heap.size/\w.cell? ⟨b,o+k,none⟩=some (.string l[k])
theorem dQ.below {w w':World}{a:Option Addr}{l:List ByteArray}(h:dQ w a l)(hb:Below w.heap.size w w'):dQ w' a l:=fun k hk=>by
 obtain⟨b,o,ha,hlt,h0⟩:=h k hk
 exact⟨b,o,ha,Nat.lt_of_lt_of_le hlt hb.size,by rw[hb.cell hlt];exact h0⟩
def aI (w:World)(B:Nat)(v:Value)(l:List ByteArray):Prop:=w.ownsRow B 9 1 v l.length (l.map .string)
theorem jr (w:World)(B:Nat):aI w B (.slice none 0 0) []:=World.ownsRow_nil _ _ _ _
theorem aI.shape {w:World}{B:Nat}{v:Value}{l:List ByteArray}(h:aI w B v l):∃a cap,v=.slice a l.length cap/\dQ w a l:=by
 rcases id h with⟨hl,h1|⟨g,cap,cur,hv,hg,hh,r⟩⟩
 ·refine⟨_,_,by rw[h1.2];exact h1.1,fun k hk=>absurd hk (by omega)⟩
 ·refine⟨_,_,hv,fun k hk=>⟨g,0,rfl,(Array.getElem?_eq_some_iff.1 hh).1, ?_⟩⟩
  subst hv
  have e:=World.ownsRow.cellAt h k (by omega)
  rw[Nat.zero_add,e]
  simp[hk]
theorem aI.keep {w w':World}{B:Nat}{v:Value}{l:List ByteArray}(h:aI w B v l)(hb:Below w.heap.size w w'):aI w' B v l:=by
 obtain⟨hl,h|⟨g,cap,cur,hv,hg,hh,r⟩⟩:=h
 ·exact⟨hl,.inl h⟩
 ·exact⟨hl,.inr ⟨g,cap,cur,hv,hg,(hb.block g (Array.getElem?_eq_some_iff.1 hh).1).trans hh,r⟩⟩
theorem aI.but {w w':World}{R B:Nat}{v:Value}{l:List ByteArray}(h:aI w B v l)(hb:But R w w')(hR:R<B):aI w' B v l:=by
 obtain⟨hl,h|⟨g,cap,cur,hv,hgB,hh,r⟩⟩:=h
 ·exact⟨hl,.inl h⟩
 ·exact⟨hl,.inr ⟨g,cap,cur,hv,hgB,(hb.block g (Array.getElem?_eq_some_iff.1 hh).1 (by omega)).trans hh,r⟩⟩
theorem aI.lower {w:World}{B B':Nat}{v:Value}{l:List ByteArray}(h:aI w B v l)(hB:B'<=B):aI w B' v l:=by
 obtain⟨hl,h|⟨g,cap,cur,hv,hg,r⟩⟩:=h
 ·exact⟨hl,.inl h⟩
 ·exact⟨hl,.inr ⟨g,cap,cur,hv,Nat.le_trans hB hg,r⟩⟩
theorem aI.snoc {w:World}{B:Nat}{v:Value}{l:List ByteArray}{s:ByteArray}(h:w.ownsRow B 9 1 v (l.length+1) (l.map .string++[.string s])):aI w B v (l++[s]):=by
 unfold aI
 rw[List.length_append,List.map_append]
 exact h
theorem aN {w:World}{B s n:Nat}{t:TypeId}{v:Value}{xs:List Value}(h:w.ownsRow B t s v n xs):∀k,v.ownBlock=some k->B<=k:=fun k e=>by
 obtain⟨_,h|⟨g,cap,cur,rfl,hle,_⟩⟩:=h
 ·rw[h.1]at e;cases e
 ·simp[Value.ownBlock]at e;omega
theorem fA (w:World)(x:Value)(t:TypeId):∀j u,[x][j]?=some u->(w.alloc (.cells #[x] t)).cell? ((⟨w.heap.size,0,none⟩:Addr).add j)=some u:=by
 intro j u hj
 match j,hj with
 |0,hj=>simp at hj;subst hj;simp[Addr.add,go_sem]
theorem Tryz.infoS:(Tryz.prog.info? 9).map (fun i=>(i.zero,i.size,i.bytes))=some (some (.string .empty),1,16):=by kernel_rfl
end Go.Proofs.YtpfhegengmlkmabGreatDoor
