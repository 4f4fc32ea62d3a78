/- Texts of this claim, one behind the other. -/
import Derived.Test.YtpfhegengmlkmaaGreatZK22
import Derived.Test.YtpfhegengmlkmaaGreatZK32
import Derived.Test.YtpfhegengmlkmaaGreatZK35
import Derived.Test.YtpfhegengmlkmaaGreatZK37
namespace Go.Proofs.YtpfhegengmlkmaaGreat
open Go.RowKit Go.BigFrame
set_option maxRecDepth 100000

/-- The feed alone, without where it lies. -/
def fvL (p : FeedL) : FeedV := (p.1, p.2.1)
theorem GathF.rows {w : World} {B : Nat} {v : Value} {L : List FeedL} (h : GathF w B v L) : ∃ a cap, v = .slice a (L.map fvL).length cap ∧ (L.map fvL).length ≤ cap ∧ RowF w a (L.map fvL) := by
  rcases h.1.2 with ⟨rfl, h0⟩ | ⟨g, cap, cur, rfl, _, hh, hn, _⟩
  · have e : L = [] := List.length_eq_zero_iff.1 h0
    subst e
    exact ⟨none, 0, rfl, Nat.le_refl _, fun k hk => by simp at hk⟩
  · refine ⟨some ⟨g, 0, none⟩, cap, by rw [List.length_map], by rw [List.length_map]; exact hn, fun k hk => ?_⟩
    have hk' : k < L.length := by simpa using hk
    have h2 := fcells_at L k hk'
    have c0 := (World.ownsRow.cellAt h.1 (k * 3) (by omega)).trans h2.1
    have c1 := (World.ownsRow.cellAt h.1 (k * 3 + 1) (by omega)).trans h2.2.1
    have c2 := (World.ownsRow.cellAt h.1 (k * 3 + 2) (by omega)).trans h2.2.2
    have e : (L.map fvL)[k] = (L[k].1, L[k].2.1) := by simp [fvL]
    rw [e]
    refine ⟨g, 0, rfl, (Array.getElem?_eq_some_iff.1 hh).1, by rw [Nat.zero_add]; exact c0, by rw [Nat.zero_add]; exact c1, _, by rw [Nat.zero_add]; exact c2, (h.2 _ (List.getElem_mem hk')).1.isSl⟩
theorem GathF.fit {w : World} {B : Nat} {v : Value} {L : List FeedL} (h : GathF w B v L) (hl : L.length ≤ 1000) : FitF (L.map fvL) := by
  refine ⟨by rw [List.length_map]; unfold maxLen; omega, fun j hj => ?_⟩
  have hj' : j < L.length := by simpa using hj
  have e : (L.map fvL)[j] = (L[j].1, L[j].2.1) := by simp [fvL]
  rw [e]
  obtain ⟨_, h1, h2⟩ := h.2 _ (List.getElem_mem hj')
  exact ⟨by unfold maxLen; simp only; omega, fun i hi => by have := h2 _ (List.getElem_mem hi); unfold maxLen; omega⟩
theorem GathS.rows {w : World} {B : Nat} {v : Value} {l : List ByteArray} (h : GathS w B v l) : ∃ a cap, v = .slice a l.length cap ∧ l.length ≤ cap ∧ cap ≤ maxLen ∧ RowS w a l := by
  obtain ⟨a, cap, e, hr⟩ := h.shape
  refine ⟨a, cap, e, ?_⟩
  rcases (show World.ownsRow _ _ _ _ _ _ _ from h).2 with ⟨e', h0⟩ | ⟨g, cap', cur, e', _, hh, hn, hm, _⟩
  · rw [e] at e'
    simp only [Value.slice.injEq] at e'
    exact ⟨by omega, by omega, hr⟩
  · rw [e] at e'
    simp only [Value.slice.injEq] at e'
    exact ⟨by omega, by omega, hr⟩

end Go.Proofs.YtpfhegengmlkmaaGreat

namespace Go.Proofs.YtpfhegengmlkmaaGreat
open Go.RowKit Go.BigFrame
set_option maxRecDepth 100000

/-- A gather in its box, while another block changes. -/
theorem PlyW.far {B : Nat} {u u' : World} {bG glo ghi lo hi : Nat} {g : GatL} {Lw : List WinY} {a0 a1 a2 : Option Addr} {d0 d1 d2 : Nat} (h : PlyW B u bG glo ghi g Lw a0 a1 a2 d0 d1 d2 (.slice none 0 0) (.slice none 0 0) [] []) (hs : Span lo hi u u') (h1 : bG < lo ∨ hi ≤ bG) (h2 : ghi ≤ lo ∨ hi ≤ glo) :
    PlyW B u' bG glo ghi g Lw a0 a1 a2 d0 d1 d2 (.slice none 0 0) (.slice none 0 0) [] [] :=
  { tG := h.tG.span hs h1, map := h.map, nice := h.nice, sg := h.sg.span hs h2, glt := Nat.le_trans h.glt hs.size, gbox := h.gbox, bB := h.bB, BU := Nat.le_trans h.BU hs.size, osh := World.ownsRow_nil _ _ _ _, oco := World.ownsRow_nil _ _ _ _, at_ := (fun p hp => by simp at hp), dis := List.Pairwise.nil, sfar := (fun p hp => by simp at hp), cfar := (fun p hp => by simp at hp), sgf := (fun k e => by cases e), cgf := (fun k e => by cases e) }

/-- What GatherNew answers, in one form. -/
theorem NewE.begin {w w' : World} {ins : List ByteArray} {e : Ending} (h : NewE w w' ins e) : ∃ (g : GatL) (a0 : Option Addr) (c0 : Nat) (a1 : Option Addr) (c1 : Nat) (a2 : Option Addr) (c2 : Nat) (L : List WinY) (b : Bool), e = .returned (.tuple #[.agg #[.slice a0 g.ins.length c0, .slice a1 L.length c1, .slice a2 g.shown.length c2], .bool b]) ∧ NiceG g ∧ L.map (·.l) = g.wins ∧ SafeG w' w.heap.size w'.heap.size a0 a1 a2 g.ins L g.shown ∧ (g.ins.length ≤ c0 ∧ c0 ≤ maxLen) ∧ RoomS w' w.heap.size w'.heap.size a0 a1 c0 c1 g.ins.length L.length := by
  rcases id h with ⟨B, v0, v1, L, v2, hB, rfl, hp, h1, h2, h3, ⟨a2, c2, rfl⟩⟩ | ⟨rfl, hp⟩
  · rcases h.start with ⟨s0, e0, s1, e1, s2, e2, Lw, he, hN, hmap, hsg, hcap⟩ | ⟨he, _⟩
    · simp only [Ending.returned.injEq, Value.tuple.injEq, Array.mk.injEq, List.cons.injEq, Value.agg.injEq, and_true] at he
      obtain ⟨rfl, rfl, he2⟩ := he
      simp only [Value.slice.injEq, true_and] at he2
      obtain ⟨rfl, rfl⟩ := he2
      have hlen : L.length = Lw.length := by
        have q1 := congrArg List.length h3
        have q2 := congrArg List.length hmap
        simp only [List.length_map, List.length_replicate, newG] at q1 q2
        omega
      have ho : w'.ownsRow B 41 1 (.slice s1 Lw.length e1) Lw.length (L.map (·.v)) := by
        have := h2.own
        rw [hlen] at this
        exact this
      exact ⟨newG ins, s0, e0, s1, e1, a2, c2, Lw, true, rfl, newG_nice hN, hmap, hsg, hcap, ⟨⟨_, owns_lower h1 hB⟩, ⟨_, owns_lower ho hB⟩, fun k q => (World.ownsRow.lt h1 k q).2, fun k q => (World.ownsRow.lt ho k q).2⟩⟩
    · simp at he
  · exact ⟨emptyG, none, 0, none, 0, none, 0, [], false, rfl, emptyG_nice, rfl, .inl ⟨rfl, rfl, rfl⟩, ⟨by simp [emptyG], by unfold maxLen; omega⟩, roomS_none _ _ _⟩
/-- The rows of a gather lie in blocks from number 'lo' on. -/
def RowsAt (lo : Nat) (w : World) (g : GatL) (a0 a1 a2 : Option Addr) : Prop := ∀ u, Span 0 lo w u → RowS u a0 g.ins ∧ RowW u a1 g.wins ∧ Row u a2 g.shown
theorem RowsAt.span {lo : Nat} {w w' : World} {g : GatL} {a0 a1 a2 : Option Addr} (h : RowsAt lo w g a0 a1 a2) (hs : Span 0 lo w w') : RowsAt lo w' g a0 a1 a2 := fun u hu => h u (hs.trans hu)
theorem Rd.but {w w' : World} {R n c p b : Nat} {ab : Option Addr} (h : Rd w R ab n c p) (hb : But b w w') (hR : R < b) : Rd w' R ab n c p := h.same fun k hk => hb.block k (by have := h.lt; omega) (by omega)
theorem RoomS.but {w w' : World} {lo hi b : Nat} {a0 a1 : Option Addr} {d0 d1 n0 n1 : Nat} (h : RoomS w lo hi a0 a1 d0 d1 n0 n1) (hb : But b w w') (hd : b < lo ∨ hi ≤ b) : RoomS w' lo hi a0 a1 d0 d1 n0 n1 := h.span (hb.span (Nat.le_refl _) (Nat.lt_succ_self _)) (by omega)
theorem PlyW.but {B R : Nat} {u u' : World} {bG glo ghi : Nat} {g : GatL} {Lw : List WinY} {a0 a1 a2 : Option Addr} {d0 d1 d2 : Nat} (h : PlyW B u bG glo ghi g Lw a0 a1 a2 d0 d1 d2 (.slice none 0 0) (.slice none 0 0) [] []) (hb : But R u u') (h1 : bG ≠ R) (h2 : ghi ≤ R ∨ R < glo) :
    PlyW B u' bG glo ghi g Lw a0 a1 a2 d0 d1 d2 (.slice none 0 0) (.slice none 0 0) [] [] := h.far (hb.span (Nat.le_refl _) (Nat.lt_succ_self _)) (by omega) (by omega)

end Go.Proofs.YtpfhegengmlkmaaGreat

namespace Go.Proofs.YtpfhegengmlkmaaGreat
open Go.RowKit Go.BigFrame
set_option maxRecDepth 100000

/-- Blocks from 'lo' on and ahead of 'hi' are in u as in w. -/
structure Agree (lo hi : Nat) (w u : World) : Prop where
  size : w.heap.size ≤ u.heap.size
  block : ∀ k, lo ≤ k → k < hi → k < w.heap.size → u.heap[k]? = w.heap[k]?
theorem Agree.refl (lo hi : Nat) (w : World) : Agree lo hi w w := ⟨Nat.le_refl _, fun _ _ _ _ => rfl⟩
theorem Agree.trans {lo hi : Nat} {x y z : World} (h : Agree lo hi x y) (k : Agree lo hi y z) : Agree lo hi x z := ⟨Nat.le_trans h.size k.size, fun i h1 h2 h3 => (k.block i h1 h2 (Nat.lt_of_lt_of_le h3 h.size)).trans (h.block i h1 h2 h3)⟩
theorem Agree.sub {lo hi lo' hi' : Nat} {x y : World} (h : Agree lo hi x y) (h1 : lo ≤ lo') (h2 : hi' ≤ hi) : Agree lo' hi' x y := ⟨h.size, fun i q1 q2 q3 => h.block i (by omega) (by omega) q3⟩
theorem below_agree {lo hi : Nat} {w u : World} (h : Below w.heap.size w u) : Agree lo hi w u := ⟨h.size, fun i _ _ q => h.block i q⟩
theorem Span.agree {lo hi q0 q1 : Nat} {w u : World} (h : Span q0 q1 w u) (hd : hi ≤ q0 ∨ q1 ≤ lo) : Agree lo hi w u := ⟨h.size, fun i h1 h2 q => h.block i q (by omega)⟩
theorem But.agree {lo hi R : Nat} {w u : World} (h : But R w u) (hd : R < lo ∨ hi ≤ R) : Agree lo hi w u := ⟨h.size, fun i h1 h2 q => h.block i q (by omega)⟩
theorem grown_agree {lo hi : Nat} {w u : World} {r : Option Nat} (h : w.grownBy u r) (hd : ∀ k, r = some k → k < lo ∨ hi ≤ k) : Agree lo hi w u := ⟨h.size, fun i h1 h2 q => h.block i q fun e => by have := hd i e.symm; omega⟩
/-- The items 'l' at 'a', as the blocks from 'lo' on and ahead of 'hi' tell it. -/
def RowIn (lo hi : Nat) (w : World) (a : Option Addr) (l : List ItemL) : Prop := ∀ u, Agree lo hi w u → RowI u a l
theorem RowIn.agree {lo hi : Nat} {w u : World} {a : Option Addr} {l : List ItemL} (h : RowIn lo hi w a l) (hA : Agree lo hi w u) : RowIn lo hi u a l := fun x hx => h x (hA.trans hx)
theorem PartI.agree {w w' : World} {lo hi g k : Nat} {l : List ItemL} (h : PartI w lo hi g l k) (h1 : lo ≤ g) (h2 : g < hi) (hs : Agree lo hi w w') : PartI w' lo hi g l k := by
  have hlt := h.lt
  obtain ⟨G, C, m, f, h, hm, hf, hp⟩ := h
  refine ⟨G, C, m, f, h.of_block (hs.block g h1 h2 hlt), hm, fun j hj hk => ?_, hp⟩
  obtain ⟨e1, e2, e3, e4, e5, e6, e7⟩ := hf j hj hk
  have hl4 := e4.lt
  obtain ⟨m', f', h', hf'⟩ := e4
  exact ⟨e1, e2, e3, ⟨m', f', h'.of_block (hs.block (G j) (by omega) (by omega) hl4), hf'⟩, e5, e6, e7⟩
theorem SafeI.rowIn {w : World} {lo hi : Nat} {a : Option Addr} {l : List ItemL} (h : SafeI w lo hi a l) : RowIn lo hi w a l := fun u hu => by
  rcases h with rfl | ⟨g, rfl, h1, h2, hp⟩
  · exact fun k hk => absurd hk (Nat.not_lt_zero k)
  · exact (hp.agree h1 h2 hu).row
theorem own_agree {w u : World} {B : Nat} {e : TypeId} {size : Nat} {v : Value} {n : Nat} {xs : List Value} (h : w.ownsRow B e size v n xs) (hA : Agree B w.heap.size w u) : u.ownsRow B e size v n xs := by
  rcases id h with ⟨hl, h1 | ⟨g, cap, cur, hv, hB, hh, r⟩⟩
  · exact ⟨hl, .inl h1⟩
  · have hlt := (Array.getElem?_eq_some_iff.1 hh).1
    exact ⟨hl, .inr ⟨g, cap, cur, hv, hB, (hA.block g hB hlt hlt).trans hh, r⟩⟩
theorem Own.same {w u : World} {s : Nat} {m : List (ByteArray × Int)} (h : Own w s m) (hb : u.heap[s]? = w.heap[s]?) : Own u s m := by
  obtain ⟨k, f, h', hf⟩ := h
  exact ⟨k, f, h'.of_block hb, hf⟩
theorem SlB.agree {w u : World} {B c : Nat} {a : Option Addr} {m : List (ByteArray × Int)} (h : SlB w B a c m) (hA : Agree B w.heap.size w u) : SlB u B a c m := ⟨h.1, h.2.imp id fun ⟨g, e, h1, ho⟩ => ⟨g, e, h1, ho.same (hA.block g h1 ho.lt ho.lt)⟩⟩
theorem GathJ.agree {w u : World} {B : Nat} {v : Value} {L : List (ItemL × Option Addr × Nat)} (h : GathJ w B v L) (hA : Agree B w.heap.size w u) : GathJ u B v L := ⟨own_agree h.1 hA, fun p hp => (h.2 p hp).agree hA⟩
theorem GathJ.rowIn {w : World} {B : Nat} {v : Value} {L : List (ItemL × Option Addr × Nat)} (h : GathJ w B v L) : ∃ a c, v = .slice a L.length c ∧ L.length ≤ c ∧ RowIn B w.heap.size w a (L.map (·.1)) := by
  obtain ⟨a, c, rfl, hc, _⟩ := h.form
  exact ⟨a, c, rfl, hc, fun _ hu => (h.agree hu).rowOf⟩
theorem own_list {w : World} {B g n c : Nat} {e : TypeId} {xs ys : List Value} (h : w.ownsRow B e 1 (.slice (some ⟨g, 0, none⟩) n c) n xs) (hl : ys.length = n) (hy : ∀ j, j < n → w.cell? ⟨g, j, none⟩ = ys[j]?) : xs = ys := by
  apply List.ext_getElem?
  intro j
  by_cases hj : j < n
  · rw [← World.ownsRow.cellAt h j (by omega), hy j hj]
  · have := h.1
    rw [List.getElem?_eq_none (by omega), List.getElem?_eq_none (by omega)]

/-- Blocks from 'lo' on, but 'x', are in u as in w. -/
structure AgreeX (x lo : Nat) (w u : World) : Prop where
  size : w.heap.size ≤ u.heap.size
  block : ∀ k, lo ≤ k → k ≠ x → k < w.heap.size → u.heap[k]? = w.heap[k]?
theorem AgreeX.sub {x lo lo' hi' : Nat} {w u : World} (h : AgreeX x lo w u) (h1 : lo ≤ lo') (hx : x < lo' ∨ hi' ≤ x) : Agree lo' hi' w u := ⟨h.size, fun k q1 q2 q3 => h.block k (by omega) (by omega) q3⟩
theorem below_agreeX {x lo : Nat} {w u : World} (h : Below w.heap.size w u) : AgreeX x lo w u := ⟨h.size, fun k _ _ q => h.block k q⟩
theorem Span.agreeX {x lo q0 q1 : Nat} {w u : World} (h : Span q0 q1 w u) (hd : q1 ≤ lo) : AgreeX x lo w u := ⟨h.size, fun k h1 _ q => h.block k q (by omega)⟩
theorem But.agreeX {x lo R : Nat} {w u : World} (h : But R w u) (hd : R < lo ∨ R = x) : AgreeX x lo w u := ⟨h.size, fun k h1 h2 q => h.block k q (by omega)⟩
theorem own_agreeX {w u : World} {x B : Nat} {e : TypeId} {size : Nat} {v : Value} {n : Nat} {xs : List Value} (h : w.ownsRow B e size v n xs) (hA : AgreeX x B w u) (hx : ∀ k, v.ownBlock = some k → k ≠ x) : u.ownsRow B e size v n xs := by
  rcases id h with ⟨hl, h1 | ⟨g, cap, cur, hv, hB, hh, r⟩⟩
  · exact ⟨hl, .inl h1⟩
  · exact ⟨hl, .inr ⟨g, cap, cur, hv, hB, (hA.block g hB (hx g (by rw [hv]; rfl)) (Array.getElem?_eq_some_iff.1 hh).1).trans hh, r⟩⟩

/-- A gather's three rows, the first two with room, all in blocks from number 'lo' on, none in 'x'. -/
structure GW (x lo : Nat) (w : World) (v0 v1 : Value) (nm : List ByteArray) (W : List WinY) (a2 : Option Addr) (m : List (ByteArray × Int)) : Prop where
  o0 : w.ownsRow lo 9 1 v0 nm.length (nm.map .string)
  o1 : w.ownsRow lo 41 1 v1 W.length (W.map (·.v))
  at_ : ∀ p ∈ W, lo ≤ p.lo ∧ p.hi ≤ w.heap.size ∧ (x < p.lo ∨ p.hi ≤ x) ∧ ∃ a c, p.v = .slice a p.l.length c ∧ p.l.length ≤ c ∧ RowIn p.lo p.hi w a p.l
  f0 : ∀ p ∈ W, ∀ k, v0.ownBlock = some k → k < p.lo ∨ p.hi ≤ k
  f1 : ∀ p ∈ W, ∀ k, v1.ownBlock = some k → k < p.lo ∨ p.hi ≤ k
  x0 : ∀ k, v0.ownBlock = some k → k ≠ x
  x1 : ∀ k, v1.ownBlock = some k → k ≠ x
  sh : m = [] ∨ ∃ s, a2 = some ⟨s, 0, none⟩ ∧ lo ≤ s ∧ s ≠ x ∧ Own w s m
  lt : x < w.heap.size
theorem GW.agree {x lo : Nat} {w u : World} {v0 v1 : Value} {nm : List ByteArray} {W : List WinY} {a2 : Option Addr} {m : List (ByteArray × Int)} (h : GW x lo w v0 v1 nm W a2 m) (hA : AgreeX x lo w u) : GW x lo u v0 v1 nm W a2 m :=
  { o0 := own_agreeX h.o0 hA h.x0, o1 := own_agreeX h.o1 hA h.x1, f0 := h.f0, f1 := h.f1, x0 := h.x0, x1 := h.x1, lt := Nat.lt_of_lt_of_le h.lt hA.size,
    at_ := fun p hp => by
      obtain ⟨h1, h2, hx, a, c, h3, h4, h5⟩ := h.at_ p hp
      exact ⟨h1, Nat.le_trans h2 hA.size, hx, a, c, h3, h4, h5.agree (hA.sub h1 hx)⟩
    sh := h.sh.imp id fun ⟨s, e, h1, hx, ho⟩ => ⟨s, e, h1, hx, ho.same (hA.block s h1 hx ho.lt)⟩ }
theorem GW.low {x lo lo' : Nat} {w : World} {v0 v1 : Value} {nm : List ByteArray} {W : List WinY} {a2 : Option Addr} {m : List (ByteArray × Int)} (h : GW x lo w v0 v1 nm W a2 m) (hl : lo' ≤ lo) : GW x lo' w v0 v1 nm W a2 m :=
  { h with o0 := owns_lower h.o0 hl, o1 := owns_lower h.o1 hl, at_ := fun p hp => ⟨by have := (h.at_ p hp).1; omega, (h.at_ p hp).2⟩, sh := h.sh.imp id fun ⟨s, e, h1, ho⟩ => ⟨s, e, by omega, ho⟩ }
theorem GW.rows {x lo : Nat} {w : World} {a0 a1 : Option Addr} {n0 n1 c0 c1 : Nat} {nm : List ByteArray} {W : List WinY} {a2 : Option Addr} {m : List (ByteArray × Int)} (h : GW x lo w (.slice a0 n0 c0) (.slice a1 n1 c1) nm W a2 m) : RowS w a0 nm ∧ RowW w a1 (W.map (·.l)) ∧ Row w a2 m := by
  refine ⟨?_, ?_, ?_⟩
  · obtain ⟨a, c, e, hr⟩ := GathS.shape (show GathS w lo (.slice a0 n0 c0) nm from h.o0)
    simp only [Value.slice.injEq] at e
    obtain ⟨rfl, _, _⟩ := e
    exact hr
  · intro k hk
    have hk' : k < W.length := by simpa using hk
    rcases h.o1.2 with ⟨_, e⟩ | ⟨g, cap, cur, e, _, hh, _⟩
    · omega
    · simp only [Value.slice.injEq] at e
      obtain ⟨rfl, rfl, rfl⟩ := e
      have hc := World.ownsRow.cellAt h.o1 k (by omega)
      obtain ⟨h1, h2, _, a, c, h3, h4, h5⟩ := h.at_ _ (List.getElem_mem hk')
      have e1 : (W.map (·.l))[k] = W[k].l := by simp
      rw [e1]
      refine ⟨g, 0, rfl, (Array.getElem?_eq_some_iff.1 hh).1, a, c, ?_, h4, h5 w (Agree.refl _ _ _)⟩
      rw [Nat.zero_add, hc, ← h3]
      simp [hk']
  · rcases h.sh with rfl | ⟨s, rfl, _, _, ho⟩
    · exact fun k hk => absurd hk (Nat.not_lt_zero k)
    · exact ho.row
theorem GW.cap {x lo : Nat} {w : World} {a0 : Option Addr} {n0 c0 : Nat} {v1 : Value} {nm : List ByteArray} {W : List WinY} {a2 : Option Addr} {m : List (ByteArray × Int)} (h : GW x lo w (.slice a0 n0 c0) v1 nm W a2 m) : nm.length ≤ c0 ∧ c0 ≤ maxLen := by
  rcases h.o0.2 with ⟨e, h0⟩ | ⟨g, cap, cur, e, _, _, hn, hc, _⟩
  · simp only [Value.slice.injEq] at e
    exact ⟨by omega, by unfold maxLen; omega⟩
  · simp only [Value.slice.injEq] at e
    obtain ⟨_, _, rfl⟩ := e
    exact ⟨hn, hc⟩
/-- One window more. -/
theorem GW.snoc1 {x lo : Nat} {w w' : World} {v0 v1 v' : Value} {nm : List ByteArray} {W : List WinY} {a2 : Option Addr} {m : List (ByteArray × Int)} {q : WinY} (h : GW x lo w v0 v1 nm W a2 m) (hq : lo ≤ q.lo ∧ q.hi ≤ w.heap.size ∧ (x < q.lo ∨ q.hi ≤ x) ∧ ∃ a c, q.v = .slice a q.l.length c ∧ q.l.length ≤ c ∧ RowIn q.lo q.hi w a q.l) (q0 : ∀ k, v0.ownBlock = some k → k < q.lo ∨ q.hi ≤ k) (q1 : ∀ k, v1.ownBlock = some k → k < q.lo ∨ q.hi ≤ k) (ho : w'.ownsRow lo 41 1 v' (W.length + 1) ((W.map (·.v)) ++ [q.v])) (hg : w.grownBy w' v1.ownBlock) (hloc : v'.ownBlock = v1.ownBlock ∨ v'.ownBlock = some w.heap.size) : GW x lo w' v0 v' nm (W ++ [q]) a2 m := by
  have hmem : ∀ p ∈ W ++ [q], p ∈ W ∨ p = q := fun p hp => by simpa using hp
  have hall : ∀ p ∈ W ++ [q], (lo ≤ p.lo ∧ p.hi ≤ w.heap.size ∧ (x < p.lo ∨ p.hi ≤ x) ∧ ∃ a c, p.v = .slice a p.l.length c ∧ p.l.length ≤ c ∧ RowIn p.lo p.hi w a p.l) ∧ (∀ k, v0.ownBlock = some k → k < p.lo ∨ p.hi ≤ k) ∧ ∀ k, v1.ownBlock = some k → k < p.lo ∨ p.hi ≤ k := fun p hp => by
    rcases hmem p hp with h1 | rfl
    · exact ⟨h.at_ p h1, h.f0 p h1, h.f1 p h1⟩
    · exact ⟨hq, q0, q1⟩
  refine ⟨?_, by simpa using ho, fun p hp => ?_, fun p hp => (hall p hp).2.1, fun p hp k e => ?_, h.x0, fun k e => ?_, h.sh.imp id fun ⟨s, e, h1, hx, hs⟩ => ⟨s, e, h1, hx, ?_⟩, Nat.lt_of_lt_of_le h.lt hg.size⟩
  · refine owns_grown h.o0 hg fun g e => ?_
    rcases own_types h.o0 h.o1 (by decide) with q | q
    · rw [q] at e; cases e
    · rw [← e]; exact q
  · obtain ⟨⟨h1, h2, hx, a, c, h3, h4, h5⟩, _, h7⟩ := hall p hp
    exact ⟨h1, Nat.le_trans h2 hg.size, hx, a, c, h3, h4, h5.agree (grown_agree hg h7)⟩
  · rcases hloc with q | q
    · exact (hall p hp).2.2 k (by rw [← q]; exact e)
    · rw [q] at e
      obtain rfl : w.heap.size = k := Option.some.inj e
      exact .inr (hall p hp).1.2.1
  · rcases hloc with q | q
    · exact h.x1 k (by rw [← q]; exact e)
    · rw [q] at e
      obtain rfl : w.heap.size = k := Option.some.inj e
      have := h.lt
      omega
  · obtain ⟨k, f, h', _⟩ := id hs
    exact hs.grown hg (owns_type h.o1 h' (by decide))
theorem SafeG.gw {w : World} {x lo hi d0 d1 : Nat} {a0 a1 a2 : Option Addr} {nm : List ByteArray} {L : List WinY} {m : List (ByteArray × Int)} (h : SafeG w lo hi a0 a1 a2 nm L m) (hr : RoomS w lo hi a0 a1 d0 d1 nm.length L.length) (hh : hi ≤ w.heap.size) (hx : x < lo ∨ hi ≤ x) (hl : x < w.heap.size) : GW x lo w (.slice a0 nm.length d0) (.slice a1 L.length d1) nm L a2 m := by
  obtain ⟨⟨xs, o0⟩, ⟨ys, o1⟩, h0, h1⟩ := hr
  have x0 : ∀ k, (Value.slice a0 nm.length d0).ownBlock = some k → k ≠ x := fun k e => by
    have := h0 k e
    have := (World.ownsRow.lt o0 k e).1
    omega
  have x1 : ∀ k, (Value.slice a1 L.length d1).ownBlock = some k → k ≠ x := fun k e => by
    have := h1 k e
    have := (World.ownsRow.lt o1 k e).1
    omega
  rcases h with ⟨rfl, rfl, rfl⟩ | ⟨b, t, rfl, rfl, hF⟩
  · obtain rfl : xs = [] := List.length_eq_zero_iff.1 (by have := o0.1; simpa using this)
    obtain rfl : ys = [] := List.length_eq_zero_iff.1 (by have := o1.1; simpa using this)
    exact ⟨o0, o1, by simp, by simp, by simp, x0, x1, .inl rfl, hl⟩
  · obtain rfl : xs = nm.map .string := own_list o0 (by simp) fun j hj => by rw [hF.names.cell hj]; simp [hj]
    obtain rfl : ys = L.map (·.v) := own_list o1 (by simp) fun j hj => by rw [hF.wins.cell j hj]; simp [hj]
    refine ⟨o0, o1, fun p hp => ?_, fun p hp k e => ?_, fun p hp k e => ?_, x0, x1, ?_, hl⟩
    · obtain ⟨q1, q2, q3⟩ := hF.wins.in_ p hp
      obtain ⟨a, c, e1, e2, e3⟩ := hF.wins.at_ p hp
      exact ⟨q1, by omega, by omega, a, c, e1, e2, e3.rowIn⟩
    · have e' : b = k := by simpa [Value.ownBlock] using e
      subst e'
      exact hF.bfar p hp
    · have e' : t = k := by simpa [Value.ownBlock] using e
      subst e'
      exact hF.wins.far p hp
    · rcases hF.stamp with e | ⟨s, e, s1, s2, _, _, s5, _⟩
      · exact .inl e
      · exact .inr ⟨s, e, s1, by omega, s5⟩
end Go.Proofs.YtpfhegengmlkmaaGreat
