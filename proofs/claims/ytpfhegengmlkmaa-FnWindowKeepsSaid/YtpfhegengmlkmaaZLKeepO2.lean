/- Texts of this claim, one behind the other. -/
import Derived.Deep.DeepCutAuto
import Derived.Test.YtpfhegengmlkmaaLat
import Derived.Test.YtpfhegengmlkmaaMath
import Derived.Laws.StructEq
import Derived.Test.YtpfhegengmlkmaaItB
import Derived.Test.YtpfhegengmlkmaaWb
import Derived.Test.YtpfhegengmlkmaaWinL
import Derived.Test.YtpfhegengmlkmaaItD
import Derived.Test.YtpfhegengmlkmaaZLKeepO1
/- Walk: l6Feeds. -/
namespace Go.Proofs.Ytpfhegengmlkmaa
open Go.RowKit Go.BigFrame
set_option maxRecDepth 100000

/-- A feed: its input, its item, and where the item's marks lie. -/
abbrev FeedL := Int × ItemL × Option Addr × Nat
/-- The cells of feeds, three a feed. -/
def fcells : List FeedL → List Value
  | [] => []
  | p :: r => .int .i64 p.1 :: .int .i64 p.2.1.1 :: .slice p.2.2.1 p.2.1.2.length p.2.2.2 :: fcells r
theorem fcells_length : ∀ L, (fcells L).length = L.length * 3
  | [] => rfl
  | p :: r => by simp [fcells, fcells_length r]; omega
theorem fcells_append : ∀ L r, fcells (L ++ r) = fcells L ++ fcells r
  | [], _ => rfl
  | p :: L, r => by simp [fcells, fcells_append L r]
theorem fcells_at : ∀ (L : List FeedL) (k : Nat) (h : k < L.length), (fcells L)[k * 3]? = some (.int .i64 L[k].1) ∧ (fcells L)[k * 3 + 1]? = some (.int .i64 L[k].2.1.1) ∧ (fcells L)[k * 3 + 2]? = some (.slice L[k].2.2.1 L[k].2.1.2.length L[k].2.2.2)
  | p :: r, 0, _ => by simp [fcells]
  | p :: r, k + 1, h => by
    have := fcells_at r k (by simpa using h)
    have e0 : (k + 1) * 3 = k * 3 + 1 + 1 + 1 := by omega
    rw [e0]
    simp only [fcells, List.getElem?_cons_succ, List.getElem_cons_succ]
    exact this
/-- The slice value 'v' holds the feeds 'L', in a block of the call's own from number 'B' on; or it is nil, and there are none. -/
def GathF (w : World) (B : Nat) (v : Value) (L : List FeedL) : Prop := w.ownsRow B 47 3 v L.length (fcells L) ∧ ∀ p ∈ L, SlB w B p.2.2.1 p.2.2.2 p.2.1.2 ∧ p.2.1.2.length ≤ 40 ∧ ∀ y ∈ p.2.1.2, y.1.size ≤ 2000
theorem gathF_none (w : World) (B : Nat) : GathF w B (.slice none 0 0) [] := ⟨World.ownsRow_nil _ _ _ _, by simp⟩
theorem GathF.but {w w' : World} {R B : Nat} {v : Value} {L : List FeedL} (h : GathF w B v L) (hb : But R w w') (hR : R < B) : GathF w' B v L := ⟨owns_but h.1 hb hR, fun p hp => ⟨(h.2 p hp).1.but hb hR, (h.2 p hp).2⟩⟩
theorem GathF.keep {w w' : World} {B : Nat} {v : Value} {L : List FeedL} (h : GathF w B v L) (hb : Below w.heap.size w w') : GathF w' B v L := ⟨owns_keep h.1 hb, fun p hp => ⟨(h.2 p hp).1.keep hb, (h.2 p hp).2⟩⟩
theorem GathF.lower {w : World} {B B' : Nat} {v : Value} {L : List FeedL} (h : GathF w B v L) (hB : B' ≤ B) : GathF w B' v L := ⟨owns_lower h.1 hB, fun p hp => ⟨(h.2 p hp).1.lower hB, (h.2 p hp).2⟩⟩
theorem GathF.snoc {w w' : World} {B : Nat} {v v' : Value} {L : List FeedL} {p : FeedL} (h : GathF w B v L) (hp : SlB w B p.2.2.1 p.2.2.2 p.2.1.2 ∧ p.2.1.2.length ≤ 40 ∧ ∀ y ∈ p.2.1.2, y.1.size ≤ 2000)
    (h' : w'.ownsRow B 47 3 v' (L.length + 1) (fcells L ++ [.int .i64 p.1, .int .i64 p.2.1.1, .slice p.2.2.1 p.2.1.2.length p.2.2.2])) (hgr : w.grownBy w' v.ownBlock) : GathF w' B v' (L ++ [p]) := by
  refine ⟨?_, fun q hq => ?_⟩
  · rw [fcells_append, List.length_append]
    exact h'
  · rcases List.mem_append.1 hq with hq | hq
    · exact ⟨(h.2 q hq).1.grown h.1 (by decide) hgr, (h.2 q hq).2⟩
    · obtain rfl : q = p := by simpa using hq
      exact ⟨hp.1.grown h.1 (by decide) hgr, hp.2⟩
theorem Try.infoF : (Try.prog.info? 47).map (fun i => (i.zero, i.size, i.bytes)) = some (some (.agg #[.int .i64 0, .int .i64 0, .slice none 0 0]), 3, 40) := by kernel_rfl

theorem owns_not {w w' : World} {A B e size n : Nat} {v : Value} {xs : List Value} (h : w.ownsRow B e size v n xs) (hb : But A w w') (hne : some A ≠ v.ownBlock) : w'.ownsRow B e size v n xs := by
  obtain ⟨hl, h | ⟨g, cap, cur, rfl, hgB, hh, r⟩⟩ := h
  · exact ⟨hl, .inl h⟩
  · exact ⟨hl, .inr ⟨g, cap, cur, rfl, hgB, (hb.block g (Array.getElem?_eq_some_iff.1 hh).1 (fun q => hne (by rw [← q]; rfl))).trans hh, r⟩⟩
/-- Block 'A' is a row of 'n' places of a story. -/
def AtB (w : World) (A n : Nat) (b : Int) : Prop := ∃ f, w.rowIs A 3 n f ∧ ∀ j, j < n → ∃ v : Int, f j = .int .i64 v ∧ 0 ≤ v ∧ v ≤ b
theorem AtB.of {w w' : World} {A n : Nat} {b : Int} (h : AtB w A n b) (hb : w'.heap[A]? = w.heap[A]?) : AtB w' A n b := by
  obtain ⟨f, h, hf⟩ := h
  exact ⟨f, h.of_block hb, hf⟩
theorem AtB.lt {w : World} {A n : Nat} {b : Int} (h : AtB w A n b) : A < w.heap.size := by
  obtain ⟨f, h, _⟩ := h
  exact h.lt
theorem AtB.cell {w : World} {A n : Nat} {b : Int} (h : AtB w A n b) {j : Nat} (hj : j < n) : ∃ v : Int, w.cell? ⟨A, j, none⟩ = some (.int .i64 v) ∧ 0 ≤ v ∧ v ≤ b := by
  obtain ⟨f, h, hf⟩ := h
  obtain ⟨v, e, h0, h1⟩ := hf j hj
  exact ⟨v, by rw [h.cell hj, e], h0, h1⟩
theorem AtB.free {w : World} {A n : Nat} {b : Int} (h : AtB w A n b) (j : Nat) : w.frozen? ⟨A, j, none⟩ = false := by
  obtain ⟨f, h, _⟩ := h
  exact h.frozen j
theorem AtB.set {w : World} {A n : Nat} {b : Int} (h : AtB w A n b) {k : Nat} {u : Int} (h0 : 0 ≤ u) (h1 : u ≤ b) : AtB (w.setCell ⟨A, k, none⟩ (.int .i64 u)) A n b := by
  obtain ⟨f, h, hf⟩ := h
  refine ⟨_, h.set _ _, fun j hj => ?_⟩
  by_cases e : j = k
  · exact ⟨u, if_pos e, h0, h1⟩
  · obtain ⟨v, q, q0, q1⟩ := hf j hj
    exact ⟨v, (if_neg e).trans q, q0, q1⟩
theorem AtB.made (w : World) (n : Nat) : AtB (w.alloc (.cells (madeCells #[.int .i64 0] n) 3)) w.heap.size n 11 := by
  refine ⟨fun _ => .int .i64 0, ?_, fun j _ => ⟨0, rfl, by omega, by omega⟩⟩
  have h := World.rowIs_alloc w (madeCells #[.int .i64 0] n) 3 (fun _ => .int .i64 0) (fun i hi => by
    rw [size_madeCells] at hi
    simp [madeCells, hi, Nat.mod_one])
  rwa [size_madeCells] at h

/-- All that the drawing of feeds keeps in memory. -/
structure FW (w u : World) (R n c : Nat) (ab : Option Addr) (p' A nw sa sc : Nat) (SL : List (Nat × Nat)) (out : Value) (L : List FeedL) (b : Int) : Prop where
  at_ : AtB u A nw b
  story : GathV u w.heap.size (.slice (some ⟨sa, 0, none⟩) 12 sc) SL
  feeds : GathF u w.heap.size out L
  rd : Rd u R ab n c p'
  but : But R w u
  low : w.heap.size ≤ A
  old : ∀ p ∈ SL, p.1 < A
  r : R < w.heap.size
theorem FW.keep {w u u' : World} {R n c p' A nw sa sc : Nat} {ab : Option Addr} {SL : List (Nat × Nat)} {out : Value} {L : List FeedL} {b : Int} (h : FW w u R n c ab p' A nw sa sc SL out L b) (hb : Below u.heap.size u u') : FW w u' R n c ab p' A nw sa sc SL out L b :=
  ⟨h.at_.of (hb.block A h.at_.lt), h.story.keep hb, h.feeds.keep hb, h.rd.below hb, h.but.trans (But.of_below hb), h.low, h.old, h.r⟩
theorem FW.pick {w u u' : World} {R n c p' p2 A nw sa sc : Nat} {ab : Option Addr} {SL : List (Nat × Nat)} {out : Value} {L : List FeedL} {b : Int} (h : FW w u R n c ab p' A nw sa sc SL out L b) (hr : Rd u' R ab n c p2) (hb : But R u u') : FW w u' R n c ab p2 A nw sa sc SL out L b :=
  ⟨h.at_.of (hb.block A h.at_.lt (by have := h.low; have := h.r; omega)), h.story.but hb h.r, h.feeds.but hb h.r, hr, h.but.trans hb, h.low, h.old, h.r⟩
theorem AtB.mono {w : World} {A n : Nat} {b b' : Int} (h : AtB w A n b) (hb : b ≤ b') : AtB w A n b' := by
  obtain ⟨f, h, hf⟩ := h
  refine ⟨f, h, fun j hj => ?_⟩
  obtain ⟨v, e, h0, h1⟩ := hf j hj
  exact ⟨v, e, h0, by omega⟩
/-- Only block 'A' turned, which is a row of numbers. -/
theorem FW.turn {w u u' : World} {R n c p' A nw sa sc : Nat} {ab : Option Addr} {SL : List (Nat × Nat)} {out : Value} {L : List FeedL} {b b' : Int} (h : FW w u R n c ab p' A nw sa sc SL out L b) (hbt : But A u u') (hat : AtB u' A nw b') : FW w u' R n c ab p' A nw sa sc SL out L b' := by
  obtain ⟨f, hrow, _⟩ := id h.at_
  have n1 : some A ≠ (Value.slice (some ⟨sa, 0, none⟩) 12 sc).ownBlock := owns_type h.story.1 hrow (by decide)
  have n2 := owns_type h.feeds.1 hrow (by decide)
  refine ⟨hat, ⟨owns_not h.story.1 hbt n1, fun p hp => ⟨(h.story.2 p hp).1, (h.story.2 p hp).2.1.but hbt (by have := h.old p hp; omega), (h.story.2 p hp).2.2⟩⟩,
    ⟨owns_not h.feeds.1 hbt n2, fun p hp => ⟨⟨(h.feeds.2 p hp).1.1, (h.feeds.2 p hp).1.2.imp id fun ⟨g, e, hg, ho⟩ => ⟨g, e, hg, hbt.own ho (fun q => by
      obtain ⟨m', f', hr', _⟩ := ho
      obtain ⟨cs, q1, _⟩ := hr'
      obtain ⟨cs', q2, _⟩ := hrow
      rw [q, q2] at q1
      simp at q1)⟩⟩, (h.feeds.2 p hp).2⟩⟩, h.rd.same fun q hq => hbt.block q (by have := h.rd.lt; omega) (by have := h.low; have := h.r; omega), h.but.trans' hbt h.low, h.low, h.old, h.r⟩

theorem AtB.set2 {w : World} {A n : Nat} {b : Int} (h : AtB w A n b) {k : Nat} {v u : Int} (h0 : 0 ≤ u) (h1 : u ≤ b) : AtB ((w.setCell ⟨A, k, none⟩ (.int .i64 v)).setCell ⟨A, k, none⟩ (.int .i64 u)) A n b := by
  obtain ⟨f, h, hf⟩ := h
  refine ⟨_, (h.set _ _).set _ _, fun j hj => ?_⟩
  by_cases e : j = k
  · exact ⟨u, if_pos e, h0, h1⟩
  · obtain ⟨v, q, q0, q1⟩ := hf j hj
    exact ⟨v, (if_neg e).trans ((if_neg e).trans q), q0, q1⟩

/-- Block 'bt' is an item of the call's own. -/
structure ItW (u : World) (B bt : Nat) (x : Int) (ma : Option Addr) (mc : Nat) (m : List (ByteArray × Int)) : Prop where
  row : ∃ f, u.rowIs bt 45 2 f ∧ f 0 = .int .i64 x ∧ f 1 = .slice ma m.length mc
  sl : SlB u B ma mc m
  few : m.length ≤ 40 ∧ ∀ y ∈ m, y.1.size ≤ 2000
  low : B ≤ bt
theorem ItW.lt {u : World} {B bt mc : Nat} {x : Int} {ma : Option Addr} {m : List (ByteArray × Int)} (h : ItW u B bt x ma mc m) : bt < u.heap.size := by
  obtain ⟨f, h, _⟩ := h.row
  exact h.lt
theorem ItW.cells {u : World} {B bt mc : Nat} {x : Int} {ma : Option Addr} {m : List (ByteArray × Int)} (h : ItW u B bt x ma mc m) : u.cell? ⟨bt, 0, none⟩ = some (.int .i64 x) ∧ u.cell? ⟨bt, 1, none⟩ = some (.slice ma m.length mc) ∧ u.frozen? ⟨bt, 0, none⟩ = false ∧ u.frozen? ⟨bt, 1, none⟩ = false := by
  obtain ⟨f, h, e0, e1⟩ := h.row
  exact ⟨by rw [h.cell (by omega), e0], by rw [h.cell (by omega), e1], h.frozen 0, h.frozen 1⟩
theorem ItW.keep {u u' : World} {B bt mc : Nat} {x : Int} {ma : Option Addr} {m : List (ByteArray × Int)} (h : ItW u B bt x ma mc m) (hb : Below u.heap.size u u') : ItW u' B bt x ma mc m := by
  have hlt := h.lt
  obtain ⟨f, h1, e⟩ := h.row
  exact ⟨⟨f, h1.of_block (hb.block bt hlt), e⟩, h.sl.keep hb, h.few, h.low⟩
theorem ItW.but {u u' : World} {R B bt mc : Nat} {x : Int} {ma : Option Addr} {m : List (ByteArray × Int)} (h : ItW u B bt x ma mc m) (hb : But R u u') (hR : R < B) : ItW u' B bt x ma mc m := by
  have hlt := h.lt
  obtain ⟨f, h1, e⟩ := h.row
  exact ⟨⟨f, h1.of_block (hb.block bt hlt (by have := h.low; omega)), e⟩, h.sl.but hb hR, h.few, h.low⟩
theorem SlB.turn {u u' : World} {B b t k mc : Nat} {f : Nat → Value} {ma : Option Addr} {m : List (ByteArray × Int)} (h : SlB u B ma mc m) (hbt : But b u u') (hrow : u.rowIs b t k f) (hne : 65 ≠ t) : SlB u' B ma mc m :=
  ⟨h.1, h.2.imp id fun ⟨g, e, hg, ho⟩ => ⟨g, e, hg, hbt.own ho (fun q => by
      obtain ⟨m', f', hr', _⟩ := ho
      obtain ⟨cs, q1, _⟩ := hr'
      obtain ⟨cs', q2, _⟩ := hrow
      rw [q, q2] at q1
      simp at q1
      exact hne q1.2.symm)⟩⟩
/-- Only block 'b' turned, which is a row of another kind. -/
theorem FW.other {w u u' : World} {R n c p' A nw sa sc b t k : Nat} {ab : Option Addr} {SL : List (Nat × Nat)} {out : Value} {L : List FeedL} {bd : Int} {f : Nat → Value} (h : FW w u R n c ab p' A nw sa sc SL out L bd) (hbt : But b u u') (hrow : u.rowIs b t k f) (h1 : 65 ≠ t) (h2 : t ≠ 3) (h3 : t ≠ 74) (h4 : some b ≠ out.ownBlock) (hlow : w.heap.size ≤ b) : FW w u' R n c ab p' A nw sa sc SL out L bd := by
  have int_ne : ∀ {g m : Nat} {f' : Nat → Value}, u.rowIs g 3 m f' → g ≠ b := fun hr q => by
    obtain ⟨cs, q1, _⟩ := hr
    obtain ⟨cs', q2, _⟩ := hrow
    rw [q, q2] at q1
    simp at q1
    exact h2 q1.2
  obtain ⟨fa, hra, _⟩ := id h.at_
  refine ⟨h.at_.of (hbt.block A h.at_.lt (int_ne hra)), ⟨owns_not h.story.1 hbt (owns_type h.story.1 hrow h3), fun p hp => ⟨(h.story.2 p hp).1, (h.story.2 p hp).2.1.but hbt (by
      obtain ⟨m, f', hr', _⟩ := (h.story.2 p hp).2.1
      exact int_ne hr'), (h.story.2 p hp).2.2⟩⟩,
    ⟨owns_not h.feeds.1 hbt h4, fun p hp => ⟨(h.feeds.2 p hp).1.turn hbt hrow h1, (h.feeds.2 p hp).2⟩⟩, h.rd.same fun q hq => hbt.block q (by have := h.rd.lt; omega) (by have := h.r; omega), h.but.trans' hbt hlow, h.low, h.old, h.r⟩

theorem owns_grown {w w' : World} {B e size n : Nat} {row : Option Nat} {v : Value} {xs : List Value} (h : w.ownsRow B e size v n xs) (hg : w.grownBy w' row) (hne : ∀ g, v.ownBlock = some g → some g ≠ row) : w'.ownsRow B e size v n xs := by
  obtain ⟨hl, h | ⟨g, cap, cur, rfl, hgB, hh, r⟩⟩ := h
  · exact ⟨hl, .inl h⟩
  · exact ⟨hl, .inr ⟨g, cap, cur, rfl, hgB, (hg.block g (Array.getElem?_eq_some_iff.1 hh).1 (hne g rfl)).trans hh, r⟩⟩
theorem owns_row {w : World} {B e size n g cap : Nat} {xs : List Value} {k : Nat} (h : w.ownsRow B e size (.slice (some ⟨g, 0, none⟩) k cap) n xs) : ∃ m f, w.rowIs g e m f := by
  obtain ⟨hl, h | ⟨g2, cap2, cur, hv, _, hh, _⟩⟩ := h
  · simp at h
  · obtain ⟨⟨rfl⟩, _⟩ : g = g2 ∧ _ := by simpa using hv
    exact ⟨cur.size, fun i => (cur[i]?).getD undef, cur, hh, rfl, fun i hi => by simp [Array.getElem?_eq_getElem hi]⟩
/-- A feed was appended. -/
theorem FW.append {w u u' : World} {R n c p' A nw sa sc : Nat} {ab : Option Addr} {SL : List (Nat × Nat)} {out v' : Value} {L : List FeedL} {b : Int} {p : FeedL} (h : FW w u R n c ab p' A nw sa sc SL out L b) (hp : SlB u w.heap.size p.2.2.1 p.2.2.2 p.2.1.2 ∧ p.2.1.2.length ≤ 40 ∧ ∀ y ∈ p.2.1.2, y.1.size ≤ 2000)
    (ho : u'.ownsRow w.heap.size 47 3 v' (L.length + 1) (fcells L ++ [.int .i64 p.1, .int .i64 p.2.1.1, .slice p.2.2.1 p.2.1.2.length p.2.2.2])) (hg : u.grownBy u' out.ownBlock) : FW w u' R n c ab p' A nw sa sc SL v' (L ++ [p]) b := by
  obtain ⟨fa, hra, _⟩ := id h.at_
  obtain ⟨m, f, hrs⟩ := owns_row h.story.1
  refine ⟨h.at_.of (hg.block A h.at_.lt (owns_type h.feeds.1 hra (by decide))), ⟨owns_grown h.story.1 hg (fun g e => by
      obtain rfl : sa = g := by simpa [Value.ownBlock] using e
      exact owns_type h.feeds.1 hrs (by decide)), fun q hq => ⟨(h.story.2 q hq).1, (h.story.2 q hq).2.1.grown h.feeds.1 (by decide) hg, (h.story.2 q hq).2.2⟩⟩, h.feeds.snoc hp ho hg, h.rd.grown hg (fun k e => by have := owns_from h.feeds.1 k e; have := h.r; omega), h.but.grown hg (owns_from h.feeds.1), h.low, h.old, h.r⟩
theorem owns_lt {w : World} {B e size n g : Nat} {v : Value} {xs : List Value} (h : w.ownsRow B e size v n xs) (hg : v.ownBlock = some g) : g < w.heap.size := by
  rcases h.2 with ⟨rfl, _⟩ | ⟨g', cap, cur, rfl, _, hh, _⟩
  · cases hg
  · obtain rfl : g' = g := by simpa [Value.ownBlock] using hg
    exact (Array.getElem?_eq_some_iff.1 hh).1
theorem tab3 {w : World} (n : Int) : ∀ k, k < 3 → ∃ x : Int, (w.alloc (.cells #[.int .i64 (-1), .int .i64 n, .int .i64 1099511627776] 3)).cell? ⟨w.heap.size, k, none⟩ = some (.int .i64 x) := fun k hk => by
  rcases (by omega : k = 0 ∨ k = 1 ∨ k = 2) with rfl | rfl | rfl <;> exact ⟨_, by simp [go_sem]; rfl⟩
theorem item_row (u : World) : u.alloc (.cells #[.int .i64 0, .slice none 0 0] 45) |>.rowIs u.heap.size 45 2 (fun i => ((#[.int .i64 0, .slice none 0 0] : Array Value)[i]?).getD undef) := World.rowIs_alloc u #[.int .i64 0, .slice none 0 0] 45 _ (fun i hi => by simp [Array.getElem?_eq_getElem hi])
theorem itW_store {u : World} {B bt mc : Nat} {x : Int} {ma : Option Addr} {m : List (ByteArray × Int)} {f : Nat → Value} (hrow : u.rowIs bt 45 2 f) (sl : SlB u B ma mc m) (few : m.length ≤ 40 ∧ ∀ y ∈ m, y.1.size ≤ 2000) (low : B ≤ bt) : ItW ((u.setCell ⟨bt, 0, none⟩ (.int .i64 x)).setCell ⟨bt, 1, none⟩ (.slice ma m.length mc)) B bt x ma mc m :=
  ⟨⟨_, (hrow.set _ _).set _ _, rfl, rfl⟩, sl.turn (((But.refl bt u).setCell _ _).setCell _ _) hrow (by decide), few, low⟩

set_option maxHeartbeats 6400000 in
theorem l6Feeds_any (R n c p : Nat) (ab : Option Addr) (gw cw nw N : Nat) (w : World) (hr : Rd w R ab n c p) (hp : p ≤ 50000) (hnw0 : 1 ≤ nw) (hnw1 : nw ≤ 6) (hN : N ≤ 61) (hgw : gw ≠ R) (hwh : ∀ j, j < nw → ∃ x : Int, w.cell? ⟨gw, j, none⟩ = some (.int .i64 x)) :
    Calls Try.prog 54 #[.pointer (some ⟨R, 0, none⟩), .slice (some ⟨gw, 0, none⟩) nw cw, .int .i64 N] w fun e w' => (∃ v L p', e = .returned v ∧ GathF w' w.heap.size v L ∧ L.length = N ∧ Rd w' R ab n c p' ∧ p' ≤ p + 12 + 110 * N) ∧ But R w w' := by
  obtain ⟨i0, hi, hz0, hz1, hz2⟩ := info_parts Try.infoF
  obtain ⟨j0, hj, hy0, hy1, hy2⟩ := info_parts Try.infoZZ
  have hR := hr.lt
  have hmk : ∀ u : World, (Instr.makeSlice 74 (.int .i64 (nw : Int)) (.int .i64 (nw : Int))).run Try.prog u =
      .ok (.slice (some ⟨u.heap.size, 0, none⟩) nw nw) (u.alloc (.cells (madeCells #[.int .i64 0] nw) 3)) := fun u => by
    have h := run_make (P := Try.prog) u 74 3 j0 (.int .i64 0) Try.underlying74 hj hy0 .i64 .i64 (nw : Int) (nw : Int) (by omega) (Int.le_refl _) (by rw [hy2]; omega) (by omega)
    simpa [hy1, Value.cells] using h
  go_enter Try.func54, Try.ntmps54
  go_wp2_with fail
  refine (l6Story_any R n c p ab 12 w hr (by omega) (by omega) (by omega)).mono ?_
  rintro e w1 ⟨⟨sv, SL, p1, rfl, hs1, hsl, hr1, hp1⟩, hb1⟩
  obtain ⟨sa, sc, rfl⟩ : ∃ a c, sv = .slice (some ⟨a, 0, none⟩) 12 c := by
    obtain ⟨g, cap, e, _⟩ := hs1.1.form (by omega)
    exact ⟨g, cap, by rw [e, hsl]⟩
  go_wp2_with fail
  have hz1' := hb1.size
  have hbx : Below w1.heap.size w1 (w1.alloc (.cells (madeCells #[.int .i64 0] nw) 3)) := (Below.refl _ _).alloc (Nat.le_refl _) _
  have H0 : FW w (w1.alloc (.cells (madeCells #[.int .i64 0] nw) 3)) R n c ab p1 w1.heap.size nw sa sc SL (.slice none 0 0) [] 11 :=
    ⟨AtB.made w1 nw, hs1.keep hbx, gathF_none _ _, hr1.below hbx, hb1.trans (But.of_below hbx), hz1', fun p hp => (hs1.2 p hp).2.1.lt, hR⟩
  generalize w1.alloc (.cells (madeCells #[.int .i64 0] nw) 3) = W1 at *
  generalize w1.heap.size = A at *
  clear hs1 hr1 hb1 hbx hmk hr
  go_loopw [9, 10] (fun out i wr => ∃ (k p' : Nat) (L : List FeedL), k ≤ N ∧ i = .int .i64 k ∧ L.length = k ∧ p' ≤ p + 12 + 110 * k ∧ FW w wr R n c ab p' A nw sa sc SL out L 11) (fun _ i _ => N - (intOf i).toNat)
  case atStart => exact ⟨0, p1, [], Nat.zero_le _, rfl, rfl, by omega, H0⟩
  case round =>
    obtain ⟨k, p', L, hk, rfl, hLl, hp', H⟩ := hrel
    clear H0
    by_cases hlt : k < N
    · go_wp2_with fail
      refine (pick_any R n c p' ab nw wr H.rd (by omega) (by omega) (by omega)).mono ?_
      rintro e w2 ⟨⟨y, rfl, hy0', hy1'⟩, hr2, hb2⟩
      obtain ⟨i, rfl⟩ := Int.eq_ofNat_of_zero_le hy0'
      have hi' : i < nw := by omega
      replace H := H.pick hr2 hb2
      clear hr2 hb2
      go_wp2_with fail
      obtain ⟨v, c2, hv0, hv1⟩ := H.at_.cell hi'
      go_cut [] (fun wx => ∃ (u : World) (v : Int), FW w u R n c ab (p' + 1 + 1) A nw sa sc SL u9 L 11 ∧ 0 ≤ v ∧ v ≤ 13 ∧ wx = u.setCell ⟨A, i, none⟩ (.int .i64 v))
      case first =>
        have k0 : (0 : Int) ≤ (i : Int) := by omega
        have k1 : (i : Int) < (nw : Int) := by omega
        have hbd : Below w2.heap.size w2 w2.drew := (Below.refl _ _).drew
        replace H := H.keep hbd
        have c2d := cell_on hbd (block_lt_of_cell c2) c2
        refine wp_region_held_drew (S := fun _ => True) (by kernel_rfl) trivial (fun _ => ?_)
        clear c2 hbd
        have c2 := c2d
        clear c2d
        generalize w2.drew = W2 at *
        refine wpAnyH_take (i := 0) (v := .slice (some ⟨A, 0, none⟩) nw nw) rfl (by kernel_rfl) (by kernel_rfl) (by kernel_rfl) (fun _ _ _ h => h) (Or.inl ⟨by rfl, ?_⟩) trivial ?_
        · rintro u _
          go_simp
        simp only [Act.put, List.setIfInBounds_toArray]
        refine wpAnyH_take (i := 1) (v := .int .i64 i) rfl (by kernel_rfl) (by kernel_rfl) (by kernel_rfl) (fun _ _ _ h => h) (Or.inl ⟨by rfl, ?_⟩) trivial ?_
        · rintro u _
          go_simp
        simp only [Act.put]
        refine wpAnyH_take (i := 2) (v := .slice (some ⟨A, 0, none⟩) nw nw) rfl (by kernel_rfl) (by kernel_rfl) (by kernel_rfl) (fun _ _ _ h => h) (Or.inl ⟨by rfl, ?_⟩) trivial ?_
        · rintro u _
          go_simp
        simp only [Act.put]
        refine wpAnyH_take (i := 3) (v := .int .i64 i) rfl (by kernel_rfl) (by kernel_rfl) (by kernel_rfl) (fun _ _ _ h => h) (Or.inl ⟨by rfl, ?_⟩) trivial ?_
        · rintro u _
          go_simp
        simp only [Act.put]
        refine wpAnyH_take (i := 4) (v := .pointer (some ⟨A, i, none⟩)) rfl (by kernel_rfl) (by kernel_rfl) (by kernel_rfl) (fun _ _ _ h => h) (Or.inl ⟨by rfl, ?_⟩) trivial ?_
        · rintro u _
          go_simp
        simp only [Act.put]
        refine wpAnyH_take (i := 6) (v := .pointer (some ⟨R, 0, none⟩)) rfl (by kernel_rfl) (by kernel_rfl) (by kernel_rfl) (fun _ _ _ h => h) (Or.inl ⟨by rfl, ?_⟩) trivial ?_
        · rintro u _
          go_simp
        simp only [Act.put]
        refine wpAnyH_ready (rs := [5, 7]) (by kernel_rfl) (by simp) ?_
        refine AllReadyH.cons rfl (fun K hK => ?_) (AllReadyH.cons rfl (fun K hK => ?_) AllReadyH.nil)
        · rw [if_pos (by rfl)]
          go_simp
          refine hK.out _ _ trivial (fun _ => ?_)
          clear hK K
          refine wpAnyH_ready (rs := [7]) (by kernel_rfl) (by simp) ?_
          refine AllReadyH.cons rfl (fun K hK => ?_) AllReadyH.nil
          rw [if_pos (by rfl)]
          go_simp
          refine (pick_any R n c (p' + 1) ab 3 _ H.rd (by omega) (by omega) (by omega)).mono ?_
          rintro e w3 ⟨⟨z, rfl, hz0', hz1'⟩, hr3, hb3⟩
          replace H := H.pick hr3 hb3
          refine hK.out _ _ trivial (fun _ => ?_)
          clear hK K hr3 hb3
          obtain ⟨z, rfl⟩ := Int.eq_ofNat_of_zero_le hz0'
          have hne : A ≠ R := by have := H.low; have := H.r; omega
          obtain ⟨v', c3, _, _⟩ := H.at_.cell hi'
          have f3 := H.at_.free i
          refine wpAnyH_take (i := 8) (v := .int .i64 (v + z)) rfl (by kernel_rfl) (by kernel_rfl) (by kernel_rfl) (fun _ _ _ h => h) (Or.inl ⟨by rfl, ?_⟩) trivial ?_
          · rintro u _
            go_simp
            (first | done | exact wrap_small (by omega) (by omega))
          simp only [Act.put, List.setIfInBounds_toArray]
          refine wpAnyH_take (i := 9) (v := .pointer (some ⟨A, i, none⟩)) rfl (by kernel_rfl) (by kernel_rfl) (by kernel_rfl) (fun _ _ _ h => h) (Or.inl ⟨by rfl, ?_⟩) trivial ?_
          · rintro u _
            go_simp
          simp only [Act.put]
          refine wpAnyH_ready (rs := [10]) (by kernel_rfl) (by simp) ?_
          refine AllReadyH.cons rfl (fun K hK => ?_) AllReadyH.nil
          rw [if_pos (by rfl)]
          go_simp
          refine hK.out _ _ trivial (fun _ => ?_)
          clear hK K
          refine wpAnyH_done (by kernel_rfl) ?_ _
          go_wp2_with fail
          go_meet
          exact ⟨w3, v + z, H, by omega, by omega, rfl⟩
        · rw [if_pos (by rfl)]
          go_simp
          have hne : A ≠ R := by have := H.low; have := H.r; omega
          refine (pick_any R n c (p' + 1) ab 3 _ H.rd (by omega) (by omega) (by omega)).mono ?_
          rintro e w3 ⟨⟨z, rfl, hz0', hz1'⟩, hr3, hb3⟩
          have c3 : w3.cell? ⟨A, i, none⟩ = some (.int .i64 v) := (hb3.cell (b := A) i (block_lt_of_cell c2) hne).trans c2
          replace H := H.pick hr3 hb3
          refine hK.out _ _ trivial (fun _ => ?_)
          clear hK K hr3 hb3
          refine wpAnyH_ready (rs := [5]) (by kernel_rfl) (by simp) ?_
          refine AllReadyH.cons rfl (fun K hK => ?_) AllReadyH.nil
          rw [if_pos (by rfl)]
          go_simp
          refine hK.out _ _ trivial (fun _ => ?_)
          clear hK K
          obtain ⟨z, rfl⟩ := Int.eq_ofNat_of_zero_le hz0'
          have f3 := H.at_.free i
          refine wpAnyH_take (i := 8) (v := .int .i64 (v + z)) rfl (by kernel_rfl) (by kernel_rfl) (by kernel_rfl) (fun _ _ _ h => h) (Or.inl ⟨by rfl, ?_⟩) trivial ?_
          · rintro u _
            go_simp
            (first | done | exact wrap_small (by omega) (by omega))
          simp only [Act.put, List.setIfInBounds_toArray]
          refine wpAnyH_take (i := 9) (v := .pointer (some ⟨A, i, none⟩)) rfl (by kernel_rfl) (by kernel_rfl) (by kernel_rfl) (fun _ _ _ h => h) (Or.inl ⟨by rfl, ?_⟩) trivial ?_
          · rintro u _
            go_simp
          simp only [Act.put]
          refine wpAnyH_ready (rs := [10]) (by kernel_rfl) (by simp) ?_
          refine AllReadyH.cons rfl (fun K hK => ?_) AllReadyH.nil
          rw [if_pos (by rfl)]
          go_simp
          refine hK.out _ _ trivial (fun _ => ?_)
          clear hK K
          refine wpAnyH_done (by kernel_rfl) ?_ _
          go_wp2_with fail
          go_meet
          exact ⟨w3, v + z, H, by omega, by omega, rfl⟩
      case rest =>
        obtain ⟨u, v, H3, hv0, hv1, rfl⟩ := hcut
        clear H c2
        obtain ⟨v0, cu, _, _⟩ := H3.at_.cell hi'
        have c4 : (u.setCell ⟨A, i, none⟩ (.int .i64 v)).cell? ⟨A, i, none⟩ = some (.int .i64 v) := World.cell?_setCell_same' _ _ _ (by rw [cu]; rfl)
        have HA1 : Hid (FW w ((u.setCell ⟨A, i, none⟩ (.int .i64 v)).setCell ⟨A, i, none⟩ (.int .i64 11)) R n c ab (p' + 1 + 1) A nw sa sc SL u9 L 11) := H3.turn (((But.refl A u).setCell _ _).setCell _ _) (H3.at_.set2 (by omega) (by omega))
        have HA2 : Hid (v ≤ 11 → FW w (u.setCell ⟨A, i, none⟩ (.int .i64 v)) R n c ab (p' + 1 + 1) A nw sa sc SL u9 L 11) := fun h => H3.turn ((But.refl A u).setCell _ _) (H3.at_.set hv0 h)
        have f4 : (u.setCell ⟨A, i, none⟩ (.int .i64 v)).frozen? ⟨A, i, none⟩ = false := ((H3.at_.mono (by omega : (11 : Int) ≤ 13)).set hv0 hv1).free i
        generalize u.setCell ⟨A, i, none⟩ (.int .i64 v) = W4 at *
        clear H3 cu
        have k0 : (0 : Int) ≤ (i : Int) := by omega
        have k1 : (i : Int) < (nw : Int) := by omega
        go_upto_if 43 with fail
        go_cut [] (fun wx => FW w wx R n c ab (p' + 1 + 1) A nw sa sc SL u9 L 11)
        case first =>
          by_cases h11 : 11 < v
          · go_wp2_with fail
            go_meet
            exact HA1.out
          · go_wp2_with fail
            go_meet
            exact HA2.out (by omega)
        case rest =>
          have H5 := hcut
          clear hcut HA1 HA2 c4 f4
          obtain ⟨kv, c5, hkv0, hkv1⟩ := H5.at_.cell hi'
          obtain ⟨q, rfl⟩ := Int.eq_ofNat_of_zero_le hkv0
          go_wp2_with fail
          refine (pick_any R n c (p' + 1 + 1) ab 10 wc H5.rd (by omega) (by omega) (by omega)).mono ?_
          rintro e w6 ⟨⟨y6, rfl, hy60, hy61⟩, hr6, hb6⟩
          have H6 := H5.pick hr6 hb6
          clear H5 hr6 hb6 c5
          go_upto_if 53 with fail
          go_cut [12] (fun kk wx => ∃ (q p2 : Nat), kk = .int .i64 q ∧ q ≤ 11 ∧ p2 ≤ p' + 4 ∧ FW w wx R n c ab p2 A nw sa sc SL u9 L 11)
          case first =>
            by_cases hy6 : y6 = 0
            · subst hy6
              go_wp2_with fail
              refine (pick_any R n c (p' + 1 + 1 + 1) ab 12 w6 H6.rd (by omega) (by omega) (by omega)).mono ?_
              rintro e w7 ⟨⟨y7, rfl, hy70, hy71⟩, hr7, hb7⟩
              obtain ⟨q7, rfl⟩ := Int.eq_ofNat_of_zero_le hy70
              have H7 := H6.pick hr7 hb7
              clear H6 hr7 hb7
              go_wp2_with fail
              go_meet
              exact ⟨q7, _, rfl, by omega, by omega, H7⟩
            · have hy6' : (y6 == 0) = false := by rw [beq_eq_false_iff_ne]; exact hy6
              go_wp2_with fail
              go_meet
              exact ⟨q, _, rfl, by omega, by omega, H6⟩
          case rest =>
            obtain ⟨q, p2, rfl, hq, hp2, H7⟩ := hcut
            clear H6
            go_wp2_with fail
            obtain ⟨gq, cq, c0, hF, hgq, hsa⟩ := H7.story.at (q := q) hsl.symm (by omega)
            obtain ⟨x, cx⟩ := hwh i hi'
            have cx7 : wc.cell? ⟨gw, i, none⟩ = some (.int .i64 x) := (H7.but.cell (b := gw) i (block_lt_of_cell cx) hgw).trans cx
            have k2 : (0 : Int) ≤ (q : Int) := by omega
            have k3 : (q : Int) < 12 := by omega
            go_cut [13] (fun it wx => ∃ (bt : Nat) (ma : Option Addr) (mc : Nat) (m : List (ByteArray × Int)), it = .pointer (some ⟨bt, 0, none⟩) ∧ ItW wx w.heap.size bt (100 * (i : Int) + (q : Int)) ma mc m ∧ FW w wx R n c ab p2 A nw sa sc SL u9 L 11)
            case first =>
              have SW : (wc.drew).cell? ⟨sa, q, none⟩ = some (.slice (some ⟨gq, 0, none⟩) 4 cq) ∧ (wc.drew).cell? ⟨gw, i, none⟩ = some (.int .i64 x) := ⟨c0, cx7⟩
              have hbd : Below wc.heap.size wc wc.drew := (Below.refl _ _).drew
              have H8 := H7.keep hbd
              have hF8 := hF.below hbd
              have hzc := H8.but.size
              refine wp_region_held_drew (S := fun u => u.cell? ⟨sa, q, none⟩ = some (.slice (some ⟨gq, 0, none⟩) 4 cq) ∧ u.cell? ⟨gw, i, none⟩ = some (.int .i64 x)) (by kernel_rfl) SW (fun _ => ?_)
              generalize wc.drew = W8 at *
              clear H7 hF hbd
              refine wpAnyH_take (i := 0) (v := .int .i64 i) rfl (by kernel_rfl) (by kernel_rfl) (by kernel_rfl) (fun _ _ _ h => h) (Or.inl ⟨by rfl, ?_⟩) SW ?_
              · rintro u ⟨q1, q2⟩
                go_simp
              simp only [Act.put, List.setIfInBounds_toArray]
              refine wpAnyH_take (i := 1) (v := .int .i64 (100 * (i : Int))) rfl (by kernel_rfl) (by kernel_rfl) (by kernel_rfl) (fun _ _ _ h => h) (Or.inl ⟨by rfl, ?_⟩) SW ?_
              · rintro u ⟨q1, q2⟩
                go_simp
                (first | done | exact wrap_small (by omega) (by omega))
              simp only [Act.put]
              refine wpAnyH_take (i := 2) (v := .int .i64 q) rfl (by kernel_rfl) (by kernel_rfl) (by kernel_rfl) (fun _ _ _ h => h) (Or.inl ⟨by rfl, ?_⟩) SW ?_
              · rintro u ⟨q1, q2⟩
                go_simp
              simp only [Act.put]
              refine wpAnyH_take (i := 3) (v := .int .i64 (100 * (i : Int) + (q : Int))) rfl (by kernel_rfl) (by kernel_rfl) (by kernel_rfl) (fun _ _ _ h => h) (Or.inl ⟨by rfl, ?_⟩) SW ?_
              · rintro u ⟨q1, q2⟩
                go_simp
                (first | done | exact wrap_small (by omega) (by omega))
              simp only [Act.put]
              refine wpAnyH_take (i := 4) (v := .slice (some ⟨sa, 0, none⟩) 12 sc) rfl (by kernel_rfl) (by kernel_rfl) (by kernel_rfl) (fun _ _ _ h => h) (Or.inl ⟨by rfl, ?_⟩) SW ?_
              · rintro u ⟨q1, q2⟩
                go_simp
              simp only [Act.put]
              refine wpAnyH_take (i := 5) (v := .int .i64 q) rfl (by kernel_rfl) (by kernel_rfl) (by kernel_rfl) (fun _ _ _ h => h) (Or.inl ⟨by rfl, ?_⟩) SW ?_
              · rintro u ⟨q1, q2⟩
                go_simp
              simp only [Act.put]
              refine wpAnyH_take (i := 6) (v := .pointer (some ⟨sa, q, none⟩)) rfl (by kernel_rfl) (by kernel_rfl) (by kernel_rfl) (fun _ _ _ h => h) (Or.inl ⟨by rfl, ?_⟩) SW ?_
              · rintro u ⟨q1, q2⟩
                go_simp
              simp only [Act.put]
              refine wpAnyH_take (i := 7) (v := .slice (some ⟨gq, 0, none⟩) 4 cq) rfl (by kernel_rfl) (by kernel_rfl) (by kernel_rfl) (fun _ _ _ h => h) (Or.inl ⟨by rfl, ?_⟩) SW ?_
              · rintro u ⟨q1, q2⟩
                go_simp
              simp only [Act.put]
              refine wpAnyH_take (i := 8) (v := .slice (some ⟨gw, 0, none⟩) nw cw) rfl (by kernel_rfl) (by kernel_rfl) (by kernel_rfl) (fun _ _ _ h => h) (Or.inl ⟨by rfl, ?_⟩) SW ?_
              · rintro u ⟨q1, q2⟩
                go_simp
              simp only [Act.put]
              refine wpAnyH_take (i := 9) (v := .int .i64 i) rfl (by kernel_rfl) (by kernel_rfl) (by kernel_rfl) (fun _ _ _ h => h) (Or.inl ⟨by rfl, ?_⟩) SW ?_
              · rintro u ⟨q1, q2⟩
                go_simp
              simp only [Act.put]
              refine wpAnyH_take (i := 10) (v := .pointer (some ⟨gw, i, none⟩)) rfl (by kernel_rfl) (by kernel_rfl) (by kernel_rfl) (fun _ _ _ h => h) (Or.inl ⟨by rfl, ?_⟩) SW ?_
              · rintro u ⟨q1, q2⟩
                go_simp
              simp only [Act.put]
              refine wpAnyH_take (i := 11) (v := .int .i64 x) rfl (by kernel_rfl) (by kernel_rfl) (by kernel_rfl) (fun _ _ _ h => h) (Or.inl ⟨by rfl, ?_⟩) SW ?_
              · rintro u ⟨q1, q2⟩
                go_simp
              simp only [Act.put]
              refine wpAnyH_ready (rs := [12, 14]) (by kernel_rfl) (by simp) ?_
              refine AllReadyH.cons rfl (fun K hK => ?_) (AllReadyH.cons rfl (fun K hK => ?_) AllReadyH.nil)
              · rw [if_pos (by rfl)]
                go_simp
                refine (l6Vec_any gq cq x 1000 W8 hF8).mono ?_
                rintro e w9 ⟨⟨mv, m, rfl, hm9, hml⟩, b9⟩
                obtain ⟨ma, mc, rfl, hms⟩ := hm9.g.slB
                have H9 := H8.keep b9
                have S9 : w9.cell? ⟨sa, q, none⟩ = some (.slice (some ⟨gq, 0, none⟩) 4 cq) ∧ w9.cell? ⟨gw, i, none⟩ = some (.int .i64 x) := ⟨cell_on b9 (block_lt_of_cell SW.1) SW.1, cell_on b9 (block_lt_of_cell SW.2) SW.2⟩
                have hms9 := hms.lower hzc
                have hfew := And.intro hm9.len hm9.size
                refine hK.out _ _ S9 (fun _ => ?_)
                clear hK K b9 H8 hm9 hms
                refine wpAnyH_take (i := 13) (v := .agg #[.int .i64 (100 * (i : Int) + (q : Int)), .slice ma m.length mc]) rfl (by kernel_rfl) (by kernel_rfl) (by kernel_rfl) (fun _ _ _ h => h) (Or.inl ⟨by rfl, ?_⟩) S9 ?_
                · rintro u ⟨q1, q2⟩
                  go_simp
                simp only [Act.put, List.setIfInBounds_toArray]
                refine wpAnyH_ready (rs := [14]) (by kernel_rfl) (by simp) ?_
                refine AllReadyH.cons rfl (fun K hK => ?_) AllReadyH.nil
                rw [if_pos (by rfl)]
                go_simp
                have hbA : Below w9.heap.size w9 (w9.alloc (.cells #[.int .i64 0, .slice none 0 0] 45)) := (Below.refl _ _).alloc (Nat.le_refl _) _
                have hrow := item_row w9
                have HA := H9.keep hbA
                have hmsA := hms9.keep hbA
                have hlow : w.heap.size ≤ w9.heap.size := H9.but.size
                have hn1 : sa ≠ w9.heap.size := by have hq : sa < w9.heap.size := block_lt_of_cell S9.1; omega
                have hn2 : gw ≠ w9.heap.size := by have hq : gw < w9.heap.size := block_lt_of_cell S9.2; omega
                have SA : (w9.alloc (.cells #[.int .i64 0, .slice none 0 0] 45)).cell? ⟨sa, q, none⟩ = some (.slice (some ⟨gq, 0, none⟩) 4 cq) ∧ (w9.alloc (.cells #[.int .i64 0, .slice none 0 0] 45)).cell? ⟨gw, i, none⟩ = some (.int .i64 x) := ⟨cell_on hbA (block_lt_of_cell S9.1) S9.1, cell_on hbA (block_lt_of_cell S9.2) S9.2⟩
                refine hK.out _ _ SA (fun _ => ?_)
                clear hK K hbA H9 hms9
                generalize w9.heap.size = bt at *
                generalize w9.alloc (.cells #[.int .i64 0, .slice none 0 0] 45) = WA at *
                clear S9
                obtain ⟨y0, y1⟩ : WA.cell? ⟨bt, 0, none⟩ = some (.int .i64 0) ∧ WA.cell? ⟨bt, 1, none⟩ = some (.slice none 0 0) := ⟨hrow.cell (by decide), hrow.cell (by decide)⟩
                have fy0 := hrow.frozen 0
                have fy1 := hrow.frozen 1
                have HI : Hid (ItW ((WA.setCell ⟨bt, 0, none⟩ (.int .i64 (100 * (i : Int) + (q : Int)))).setCell ⟨bt, 1, none⟩ (.slice ma m.length mc)) w.heap.size bt (100 * (i : Int) + (q : Int)) ma mc m) := itW_store hrow hmsA hfew hlow
                have HW : Hid (FW w ((WA.setCell ⟨bt, 0, none⟩ (.int .i64 (100 * (i : Int) + (q : Int)))).setCell ⟨bt, 1, none⟩ (.slice ma m.length mc)) R n c ab p2 A nw sa sc SL u9 L 11) := HA.other (((But.refl bt WA).setCell _ _).setCell _ _) hrow (by decide) (by decide) (by decide) (owns_type HA.feeds.1 hrow (by decide)) hlow
                have SZ : ((WA.setCell ⟨bt, 0, none⟩ (.int .i64 (100 * (i : Int) + (q : Int)))).setCell ⟨bt, 1, none⟩ (.slice ma m.length mc)).cell? ⟨sa, q, none⟩ = some (.slice (some ⟨gq, 0, none⟩) 4 cq) ∧ ((WA.setCell ⟨bt, 0, none⟩ (.int .i64 (100 * (i : Int) + (q : Int)))).setCell ⟨bt, 1, none⟩ (.slice ma m.length mc)).cell? ⟨gw, i, none⟩ = some (.int .i64 x) := ⟨by rw [set_far _ _ _ _ hn1, set_far _ _ _ _ hn1]; exact SA.1, by rw [set_far _ _ _ _ hn2, set_far _ _ _ _ hn2]; exact SA.2⟩
                clear hrow hmsA HA
                refine wpAnyH_ready (rs := [15]) (by kernel_rfl) (by simp) ?_
                refine AllReadyH.cons rfl (fun K hK => ?_) AllReadyH.nil
                rw [if_pos (by rfl)]
                go_simp
                refine hK.out _ _ SZ (fun _ => ?_)
                clear hK K
                refine wpAnyH_done (by kernel_rfl) ?_ _
                go_wp2_with fail
                go_meet
                exact ⟨_, ma, mc, m, rfl, HI.out, HW.out⟩
              · rw [if_pos (by rfl)]
                go_simp
                have hbA : Below W8.heap.size W8 (W8.alloc (.cells #[.int .i64 0, .slice none 0 0] 45)) := (Below.refl _ _).alloc (Nat.le_refl _) _
                have hrow0 := item_row W8
                have HA0 := H8.keep hbA
                have hFA := hF8.below hbA
                have hlow : w.heap.size ≤ W8.heap.size := H8.but.size
                have hn1 : sa ≠ W8.heap.size := by have hq : sa < W8.heap.size := block_lt_of_cell SW.1; omega
                have hn2 : gw ≠ W8.heap.size := by have hq : gw < W8.heap.size := block_lt_of_cell SW.2; omega
                have SA0 : (W8.alloc (.cells #[.int .i64 0, .slice none 0 0] 45)).cell? ⟨sa, q, none⟩ = some (.slice (some ⟨gq, 0, none⟩) 4 cq) ∧ (W8.alloc (.cells #[.int .i64 0, .slice none 0 0] 45)).cell? ⟨gw, i, none⟩ = some (.int .i64 x) := ⟨cell_on hbA (block_lt_of_cell SW.1) SW.1, cell_on hbA (block_lt_of_cell SW.2) SW.2⟩
                refine hK.out _ _ SA0 (fun _ => ?_)
                clear hK K hbA H8 hF8
                generalize W8.heap.size = bt at *
                generalize W8.alloc (.cells #[.int .i64 0, .slice none 0 0] 45) = WA0 at *
                clear SW
                refine wpAnyH_ready (rs := [12]) (by kernel_rfl) (by simp) ?_
                refine AllReadyH.cons rfl (fun K hK => ?_) AllReadyH.nil
                rw [if_pos (by rfl)]
                go_simp
                refine (l6Vec_any gq cq x 1000 WA0 hFA).mono ?_
                rintro e w9 ⟨⟨mv, m, rfl, hm9, hml⟩, b9⟩
                obtain ⟨ma, mc, rfl, hms⟩ := hm9.g.slB
                have HA := HA0.keep b9
                have SA : w9.cell? ⟨sa, q, none⟩ = some (.slice (some ⟨gq, 0, none⟩) 4 cq) ∧ w9.cell? ⟨gw, i, none⟩ = some (.int .i64 x) := ⟨cell_on b9 (block_lt_of_cell SA0.1) SA0.1, cell_on b9 (block_lt_of_cell SA0.2) SA0.2⟩
                have hmsA := hms.lower HA0.but.size
                have hfew := And.intro hm9.len hm9.size
                have hrow := hrow0.of_block (b9.block bt hrow0.lt)
                refine hK.out _ _ SA (fun _ => ?_)
                clear hK K b9 HA0 hm9 hms hrow0 hFA SA0
                refine wpAnyH_take (i := 13) (v := .agg #[.int .i64 (100 * (i : Int) + (q : Int)), .slice ma m.length mc]) rfl (by kernel_rfl) (by kernel_rfl) (by kernel_rfl) (fun _ _ _ h => h) (Or.inl ⟨by rfl, ?_⟩) SA ?_
                · rintro u ⟨q1, q2⟩
                  go_simp
                simp only [Act.put, List.setIfInBounds_toArray]
                obtain ⟨y0, y1⟩ : w9.cell? ⟨bt, 0, none⟩ = some (.int .i64 0) ∧ w9.cell? ⟨bt, 1, none⟩ = some (.slice none 0 0) := ⟨hrow.cell (by decide), hrow.cell (by decide)⟩
                have fy0 := hrow.frozen 0
                have fy1 := hrow.frozen 1
                have HI : Hid (ItW ((w9.setCell ⟨bt, 0, none⟩ (.int .i64 (100 * (i : Int) + (q : Int)))).setCell ⟨bt, 1, none⟩ (.slice ma m.length mc)) w.heap.size bt (100 * (i : Int) + (q : Int)) ma mc m) := itW_store hrow hmsA hfew hlow
                have HW : Hid (FW w ((w9.setCell ⟨bt, 0, none⟩ (.int .i64 (100 * (i : Int) + (q : Int)))).setCell ⟨bt, 1, none⟩ (.slice ma m.length mc)) R n c ab p2 A nw sa sc SL u9 L 11) := HA.other (((But.refl bt w9).setCell _ _).setCell _ _) hrow (by decide) (by decide) (by decide) (owns_type HA.feeds.1 hrow (by decide)) hlow
                have SZ : ((w9.setCell ⟨bt, 0, none⟩ (.int .i64 (100 * (i : Int) + (q : Int)))).setCell ⟨bt, 1, none⟩ (.slice ma m.length mc)).cell? ⟨sa, q, none⟩ = some (.slice (some ⟨gq, 0, none⟩) 4 cq) ∧ ((w9.setCell ⟨bt, 0, none⟩ (.int .i64 (100 * (i : Int) + (q : Int)))).setCell ⟨bt, 1, none⟩ (.slice ma m.length mc)).cell? ⟨gw, i, none⟩ = some (.int .i64 x) := ⟨by rw [set_far _ _ _ _ hn1, set_far _ _ _ _ hn1]; exact SA.1, by rw [set_far _ _ _ _ hn2, set_far _ _ _ _ hn2]; exact SA.2⟩
                clear hrow hmsA HA
                refine wpAnyH_ready (rs := [15]) (by kernel_rfl) (by simp) ?_
                refine AllReadyH.cons rfl (fun K hK => ?_) AllReadyH.nil
                rw [if_pos (by rfl)]
                go_simp
                refine hK.out _ _ SZ (fun _ => ?_)
                clear hK K
                refine wpAnyH_done (by kernel_rfl) ?_ _
                go_wp2_with fail
                go_meet
                exact ⟨_, ma, mc, m, rfl, HI.out, HW.out⟩
            case rest =>
              obtain ⟨bt, ma, mc, m, rfl, HI, H8⟩ := hcut
              clear H7 c0 hF cx7
              go_wp2_with fail
              refine (pick_any R n c p2 ab 24 _ H8.rd (by omega) (by omega) (by omega)).mono ?_
              rintro e w9 ⟨⟨y9, rfl, hy90, hy91⟩, hr9, hb9⟩
              have H9 := H8.pick hr9 hb9
              have HI9 := HI.but hb9 hR
              clear H8 HI hr9 hb9
              go_upto_if 72 with fail
              go_cut [] (fun wx => ∃ (ma : Option Addr) (mc : Nat) (m : List (ByteArray × Int)) (p3 : Nat), p3 ≤ p2 + 101 ∧ ItW wx w.heap.size bt (100 * (i : Int) + (q : Int)) ma mc m ∧ FW w wx R n c ab p3 A nw sa sc SL u9 L 11)
              case first =>
                by_cases hy9 : y9 = 0
                · subst hy9
                  go_wp2_with fail
                  refine (l6Marks_mks R n c (p2 + 1) ab w9 H9.rd (by omega)).mono ?_
                  rintro e wm ⟨⟨mv, m2, p4, rfl, hm, hml, hrm, hpm⟩, hbm⟩
                  obtain ⟨ma2, mc2, rfl, hms⟩ := hm.g.slB
                  have hz9 := H9.but.size
                  have Hm := H9.pick hrm hbm
                  have HIm := HI9.but hbm hR
                  have hms2 := hms.lower hz9
                  have hfew := And.intro hm.len hm.size
                  obtain ⟨y0, y1, fy0, fy1⟩ := HIm.cells
                  have HX : Hid (ItW (wm.setCell ⟨bt, 1, none⟩ (.slice ma2 m2.length mc2)) w.heap.size bt (100 * (i : Int) + (q : Int)) ma2 mc2 m2 ∧ FW w (wm.setCell ⟨bt, 1, none⟩ (.slice ma2 m2.length mc2)) R n c ab p4 A nw sa sc SL u9 L 11) := by
                    obtain ⟨f, hrow, e0, e1⟩ := HIm.row
                    exact ⟨⟨⟨_, hrow.set _ _, e0, rfl⟩, hms2.turn ((But.refl bt wm).setCell _ _) hrow (by decide), hfew, HIm.low⟩, Hm.other ((But.refl bt wm).setCell _ _) hrow (by decide) (by decide) (by decide) (owns_type Hm.feeds.1 hrow (by decide)) HIm.low⟩
                  clear H9 HI9 hm hrm hbm hms Hm HIm hms2
                  go_wp2_with fail
                  go_meet
                  exact ⟨ma2, mc2, m2, p4, by omega, HX.out⟩
                · have hy9' : (y9 == 0) = false := by rw [beq_eq_false_iff_ne]; exact hy9
                  go_wp2_with fail
                  go_meet
                  exact ⟨ma, mc, m, p2 + 1, by omega, HI9, H9⟩
              case rest =>
                obtain ⟨ma, mc, m, p3, hp3, HI, H8⟩ := hcut
                clear H9 HI9
                obtain ⟨y0, y1, fy0, fy1⟩ := HI.cells
                have hbt := HI.lt
                go_wp2_with fail
                have hbF : Below wc.heap.size wc (wc.alloc (.cells #[.int .i64 (i : Int), .int .i64 (100 * (i : Int) + (q : Int)), .slice ma m.length mc] 47)) := (Below.refl _ _).alloc (Nat.le_refl _) _
                have hrf : (wc.alloc (.cells #[.int .i64 (i : Int), .int .i64 (100 * (i : Int) + (q : Int)), .slice ma m.length mc] 47)).rowIs wc.heap.size 47 3 (fun i' => ((#[.int .i64 (i : Int), .int .i64 (100 * (i : Int) + (q : Int)), .slice ma m.length mc] : Array Value)[i']?).getD undef) := World.rowIs_alloc wc _ 47 _ (fun i hi => by simp [Array.getElem?_eq_getElem hi])
                have hlf : w.heap.size ≤ wc.heap.size := H8.but.size
                have hnf : some wc.heap.size ≠ u9.ownBlock := fun e => by have := owns_lt H8.feeds.1 e.symm; omega
                have H9 := H8.keep hbF
                have hs9 := HI.sl.keep hbF
                have hfew := HI.few
                generalize wc.alloc (.cells #[.int .i64 (i : Int), .int .i64 (100 * (i : Int) + (q : Int)), .slice ma m.length mc] 47) = WF at *
                generalize wc.heap.size = bf at *
                clear H8 HI hbF y0 y1 fy0 fy1 hbt
                refine (pick_any R n c p3 ab 60 _ H9.rd (by omega) (by omega) (by omega)).mono ?_
                rintro e w10 ⟨⟨y10, rfl, hy100, hy101⟩, hr10, hb10⟩
                have H10 := H9.pick hr10 hb10
                have hs10 := hs9.but hb10 hR
                have hrf10 := hrf.of_block (hb10.block bf hrf.lt (by omega))
                clear H9 hs9 hrf hr10 hb10
                go_upto_if 81 with fail
                go_cut [] (fun wx => ∃ (In : Int) (p4 : Nat) (f : Nat → Value), p4 ≤ p3 + 2 ∧ wx.rowIs bf 47 3 f ∧ f 0 = .int .i64 In ∧ f 1 = .int .i64 (100 * (i : Int) + (q : Int)) ∧ f 2 = .slice ma m.length mc ∧ SlB wx w.heap.size ma mc m ∧ FW w wx R n c ab p4 A nw sa sc SL u9 L 11)
                case first =>
                  by_cases hy10 : y10 = 0
                  · subst hy10
                    have hbT : Below w10.heap.size w10 (w10.alloc (.cells #[.int .i64 (-1), .int .i64 (nw : Int), .int .i64 1099511627776] 3)) := (Below.refl _ _).alloc (Nat.le_refl _) _
                    have ht3 := tab3 (w := w10) (nw : Int)
                    have H11 := H10.keep hbT
                    have hs11 := hs10.keep hbT
                    have hrf11 := hrf10.of_block (hbT.block bf hrf10.lt)
                    have htR : w10.heap.size ≠ R := by have := H10.rd.lt; omega
                    clear H10 hs10 hrf10 hbT
                    go_wp2_with fail
                    generalize w10.alloc (.cells #[.int .i64 (-1), .int .i64 (nw : Int), .int .i64 1099511627776] 3) = W11 at *
                    generalize w10.heap.size = tb at *
                    refine (pick_any R n c (p3 + 1) ab 3 _ H11.rd (by omega) (by omega) (by omega)).mono ?_
                    rintro e w12 ⟨⟨y12, rfl, hy120, hy121⟩, hr12, hb12⟩
                    obtain ⟨j, rfl⟩ := Int.eq_ofNat_of_zero_le hy120
                    obtain ⟨xi, ex⟩ := ht3 j (by omega)
                    have ex' : w12.cell? ⟨tb, j, none⟩ = some (.int .i64 xi) := (hb12.cell (b := tb) j (block_lt_of_cell ex) htR).trans ex
                    have H12 := H11.pick hr12 hb12
                    have hs12 := hs11.but hb12 hR
                    have hrf12 := hrf11.of_block (hb12.block bf hrf11.lt (by omega))
                    have cb0 : w12.cell? ⟨bf, 0, none⟩ = some (.int .i64 (i : Int)) := hrf12.cell (by decide)
                    have fb0 := hrf12.frozen 0
                    have HX : Hid (SlB (w12.setCell ⟨bf, 0, none⟩ (.int .i64 xi)) w.heap.size ma mc m ∧ FW w (w12.setCell ⟨bf, 0, none⟩ (.int .i64 xi)) R n c ab (p3 + 1 + 1) A nw sa sc SL u9 L 11) :=
                      ⟨hs12.turn ((But.refl bf w12).setCell _ _) hrf12 (by decide), H12.other ((But.refl bf w12).setCell _ _) hrf12 (by decide) (by decide) (by decide) hnf hlf⟩
                    have HR : Hid _ := hrf12.set 0 (.int .i64 xi)
                    clear H11 hs11 hrf11 hrf12 H12 hs12 hr12 hb12 ex ht3
                    go_wp2_with fail
                    go_meet
                    exact ⟨xi, _, _, by omega, HR.out, rfl, rfl, rfl, HX.out⟩
                  · have hy10' : (y10 == 0) = false := by rw [beq_eq_false_iff_ne]; exact hy10
                    go_wp2_with fail
                    go_meet
                    exact ⟨i, p3 + 1, _, by omega, hrf10, rfl, rfl, rfl, hs10, H10⟩
                case rest =>
                  obtain ⟨In, p4, f, hp4, hrf, e0, e1, e2, hs, H⟩ := hcut
                  clear H10 hs10 hrf10
                  have cb0 : wc.cell? ⟨bf, 0, none⟩ = some (.int .i64 In) := by rw [hrf.cell (by decide), e0]
                  have cb1 : wc.cell? ⟨bf, 1, none⟩ = some (.int .i64 (100 * (i : Int) + (q : Int))) := by rw [hrf.cell (by decide), e1]
                  have cb2 : wc.cell? ⟨bf, 2, none⟩ = some (.slice ma m.length mc) := by rw [hrf.cell (by decide), e2]
                  have hbZ : Below wc.heap.size wc (wc.alloc (.cells #[.int .i64 In, .int .i64 (100 * (i : Int) + (q : Int)), .slice ma m.length mc] 47)) := (Below.refl _ _).alloc (Nat.le_refl _) _
                  have HZ := H.keep hbZ
                  have hsZ := hs.keep hbZ
                  have hzz := HZ.but.size
                  have hnw : ∀ j u, ([.int .i64 In, .int .i64 (100 * (i : Int) + (q : Int)), .slice ma m.length mc] : List Value)[j]? = some u → (wc.alloc (.cells #[.int .i64 In, .int .i64 (100 * (i : Int) + (q : Int)), .slice ma m.length mc] 47)).cell? ((⟨wc.heap.size, 0, none⟩ : Addr).add j) = some u := by
                    intro j u hj
                    match j, hj with
                    | 0, hj => simp at hj; subst hj; simp [Addr.add, go_sem]
                    | 1, hj => simp at hj; subst hj; simp [Addr.add, go_sem]
                    | 2, hj => simp at hj; subst hj; simp [Addr.add, go_sem]
                  clear hrf e0 e1 e2 H hs
                  go_wp2_with (at_builtin; refine wpList_append_lies _ rfl _ _ 40 rfl w.heap.size 47 i0 (.agg #[.int .i64 0, .int .i64 0, .slice none 0 0]) 3 40 Try.underlying40 hi hz0 hz1 hz2 rfl (by decide) _ _ _ rfl HZ.feeds.1 ⟨wc.heap.size, 0, none⟩ 1 1 [.int .i64 In, .int .i64 (100 * (i : Int) + (q : Int)), .slice ma m.length mc] rfl rfl hnw (by simp [Value.oneCell']) (by decide) (by unfold maxLen; omega) (by omega) hzz _ rfl ?_; intro g9 c9 w14 hown hgrow _ _)
                  have H15 := HZ.append (p := (In, (100 * (i : Int) + (q : Int), m), ma, mc)) ⟨hsZ, hfew⟩ hown hgrow
                  rw [hLl] at H15
                  exact ⟨⟨k + 1, p4, _, by omega, by go_num, by simp [hLl], by omega, H15⟩, by simp [intOf]; omega⟩
    · go_wp2_with fail
      go_ret
      exact ⟨⟨_, L, p', rfl, H.feeds, by omega, H.rd, by omega⟩, H.but⟩

end Go.Proofs.Ytpfhegengmlkmaa
/- Walk: DrawGatherPlay. -/
namespace Go.Proofs.Ytpfhegengmlkmaa
open Go.RowKit Go.BigFrame
set_option maxRecDepth 100000

theorem GathF.grownS {w w' : World} {B B2 : Nat} {v v2 : Value} {L : List FeedL} {n : Nat} {xs : List Value} (h : GathF w B v L) (ho : w.ownsRow B2 9 1 v2 n xs) (hg : w.grownBy w' v2.ownBlock) : GathF w' B v L := by
  refine ⟨owns_grown h.1 hg (fun g e => ?_), fun p hp => ⟨(h.2 p hp).1.grown ho (by decide) hg, (h.2 p hp).2⟩⟩
  have hr : ∃ m f, w.rowIs g 47 m f := by
    rcases h.1.2 with ⟨rfl, _⟩ | ⟨g', cap, cur, rfl, _, hh, _⟩
    · cases e
    · obtain rfl : g' = g := by simpa [Value.ownBlock] using e
      exact ⟨cur.size, fun i => (cur[i]?).getD undef, cur, hh, rfl, fun i hi => by simp [Array.getElem?_eq_getElem hi]⟩
  obtain ⟨m, f, hr⟩ := hr
  exact owns_type ho hr (by decide)

set_option maxHeartbeats 6400000 in
theorem drawPlay_any (ab : Option Addr) (n c : Nat) (w : World) (h : Bytes w ab n c) :
    Calls Try.prog 28 #[.slice ab n c] w fun e w' => (∃ vi li vf Lf, e = .returned (.tuple #[vi, vf]) ∧ GathS w' w.heap.size vi li ∧ 1 ≤ li.length ∧ li.length ≤ 5 ∧ (∀ s ∈ li, s.size ≤ 8) ∧ GathF w' w.heap.size vf Lf ∧ Lf.length ≤ 61) ∧ Below w.heap.size w w' := by
  obtain ⟨i0, hi, hz0, hz1, hz2⟩ := info_parts Try.infoS
  go_enter Try.func28, Try.ntmps28
  go_wp2_with fail
  refine (l1Open_any ab n c _ h).mono ?_
  rintro e w1 ⟨⟨m, rfl, hr1⟩, hb1⟩
  have hR := hr1.lt
  go_wp2_with fail
  refine (l6Which_any _ m c 0 ab _ hr1 (by omega)).mono ?_
  rintro e w2 ⟨⟨wv, wl, p2, rfl, hw2, hwl0, hwl1, hr2, hp2⟩, hb2⟩
  obtain ⟨gw, cw, rfl, hgw⟩ := hw2.some (by omega)
  have hz12 := hb2.size
  generalize hnw : wl.length = nw at *
  have hwh2 : ∀ j, j < nw → ∃ x : Int, w2.cell? ⟨gw, j, none⟩ = some (.int .i64 x) := fun j hj => ⟨_, hw2.cells hnw.symm (by omega)⟩
  clear h hr1 hw2 hnw
  go_wp2_with fail
  refine (l6Ins_any nw w2 (by omega)).mono ?_
  rintro e w3 ⟨⟨vi, li, rfl, hg3, hll, hs8⟩, b3⟩
  obtain ⟨ia, ic, rfl, _⟩ := hg3.shape
  have hr3 := hr2.below b3
  have hB3 : But w.heap.size w1 w3 := hb2.trans (But.of_below b3)
  have hwh3 : ∀ j, j < nw → ∃ x : Int, w3.cell? ⟨gw, j, none⟩ = some (.int .i64 x) := fun j hj => by
    obtain ⟨x, e⟩ := hwh2 j hj
    exact ⟨x, cell_on b3 (block_lt_of_cell e) e⟩
  have hz3 := b3.size
  clear b3 hb2 hr2 hwh2
  go_wp2_with fail
  refine (pick_any _ m c p2 ab 30 _ hr3 (by omega) (by omega) (by omega)).mono ?_
  rintro e w4 ⟨⟨y, rfl, hy0, hy1⟩, hr4, hb4⟩
  obtain ⟨y, rfl⟩ := Int.eq_ofNat_of_zero_le hy0
  have hB4 := hB3.trans hb4
  have hg4 := hg3.but hb4 (by omega)
  have hz4 := hb4.size
  have hwh4 : ∀ j, j < nw → ∃ x : Int, w4.cell? ⟨gw, j, none⟩ = some (.int .i64 x) := fun j hj => by
    obtain ⟨x, e⟩ := hwh3 j hj
    exact ⟨x, (hb4.cell (b := gw) j (block_lt_of_cell e) (by omega)).trans e⟩
  clear hr3 hg3 hb4 hB3 hwh3
  go_wp2_with fail
  have hcN : (3 : Int) + (y : Int) = ((3 + y : Nat) : Int) := by omega
  rw [hcN]
  clear hcN
  refine (l6Feeds_any _ m c (p2 + 1) ab gw cw nw (3 + y) w4 hr4 (by omega) (by omega) (by omega) (by omega) (by omega) hwh4).mono ?_
  rintro e w5 ⟨⟨vf, Lf, p5, rfl, hg5, hfl, hr5, hp5⟩, hb5⟩
  have hB5 := hB4.trans hb5
  have hg5i := hg4.but hb5 (by omega)
  have hz5 := hb5.size
  have hwh5 : ∀ j, j < nw → ∃ x : Int, w5.cell? ⟨gw, j, none⟩ = some (.int .i64 x) := fun j hj => by
    obtain ⟨x, e⟩ := hwh4 j hj
    exact ⟨x, (hb5.cell (b := gw) j (block_lt_of_cell e) (by omega)).trans e⟩
  obtain ⟨fa, fc, rfl⟩ : ∃ a cap, vf = .slice a Lf.length cap := by
    rcases hg5.1.2 with ⟨e, h0⟩ | ⟨g, cap, cur, e, _⟩
    · exact ⟨_, _, by rw [h0]; exact e⟩
    · exact ⟨_, _, e⟩
  rw [hll] at hg5i
  rw [hfl] at hg5
  rw [hfl]
  clear hr4 hg4 hb5 hB4 hwh4
  go_wp2_with fail
  refine (pick_any _ m c p5 ab 30 w5 hr5 (by omega) (by omega) (by omega)).mono ?_
  rintro e w6 ⟨⟨z, rfl, hz0', hz1'⟩, hr6, hb6⟩
  have hB6 := hB5.trans hb6
  have hg6 := hg5.but hb6 (by omega)
  have hg6i := hg5i.but hb6 (by omega)
  have hz6 := hb6.size
  have hwh6 : ∀ j, j < nw → ∃ x : Int, w6.cell? ⟨gw, j, none⟩ = some (.int .i64 x) := fun j hj => by
    obtain ⟨x, e⟩ := hwh5 j hj
    exact ⟨x, (hb6.cell (b := gw) j (block_lt_of_cell e) (by omega)).trans e⟩
  clear hr5 hg5 hg5i hb6 hB5 hwh5
  by_cases e0 : z = 0
  · subst e0
    go_wp2_with fail
    refine (l6Feeds_any _ m c (p5 + 1) ab gw cw nw 60 w6 hr6 (by omega) (by omega) (by omega) (by omega) (by omega) hwh6).mono ?_
    rintro e w7 ⟨⟨v7, L7, p7, rfl, hg7, hl7, hr7, hp7⟩, hb7⟩
    have hgi7 := hg6i.but hb7 (by omega)
    have hz7 := hb7.size
    have hB7b : Below w.heap.size w w7 := hb1.trans ((hB6.trans hb7).below (Nat.le_refl _) hb1.size)
    obtain ⟨fa7, fc7, rfl⟩ : ∃ a cap, v7 = .slice a L7.length cap := by
      rcases hg7.1.2 with ⟨e, h0⟩ | ⟨g, cap, cur, e, _⟩
      · exact ⟨_, _, by rw [h0]; exact e⟩
      · exact ⟨_, _, e⟩
    rw [hl7] at hg7
    rw [hl7]
    have HX : Hid _ := And.intro hgi7 (And.intro hg7 hB7b)
    clear hgi7 hg7 hB7b hr7 hb7 hr6 hg6 hg6i hB6
    go_wp2_with fail
    exact bodyPost_ret (v := .tuple #[.slice ia nw ic, .slice fa7 60 fc7]) (by simp [results, Try.results28, go_sem]) rfl ⟨⟨_, li, _, L7, rfl, HX.out.1.lower (by omega), by omega, by omega, hs8, HX.out.2.1.lower (by omega), by omega⟩, HX.out.2.2⟩
  by_cases e1 : z = 1
  · subst e1
    go_wp2_with fail
    refine (l6Feeds_any _ m c (p5 + 1) ab gw cw nw 61 w6 hr6 (by omega) (by omega) (by omega) (by omega) (by omega) hwh6).mono ?_
    rintro e w7 ⟨⟨v7, L7, p7, rfl, hg7, hl7, hr7, hp7⟩, hb7⟩
    have hgi7 := hg6i.but hb7 (by omega)
    have hz7 := hb7.size
    have hB7b : Below w.heap.size w w7 := hb1.trans ((hB6.trans hb7).below (Nat.le_refl _) hb1.size)
    obtain ⟨fa7, fc7, rfl⟩ : ∃ a cap, v7 = .slice a L7.length cap := by
      rcases hg7.1.2 with ⟨e, h0⟩ | ⟨g, cap, cur, e, _⟩
      · exact ⟨_, _, by rw [h0]; exact e⟩
      · exact ⟨_, _, e⟩
    rw [hl7] at hg7
    rw [hl7]
    have HX : Hid _ := And.intro hgi7 (And.intro hg7 hB7b)
    clear hgi7 hg7 hB7b hr7 hb7 hr6 hg6 hg6i hB6
    go_wp2_with fail
    exact bodyPost_ret (v := .tuple #[.slice ia nw ic, .slice fa7 61 fc7]) (by simp [results, Try.results28, go_sem]) rfl ⟨⟨_, li, _, L7, rfl, HX.out.1.lower (by omega), by omega, by omega, hs8, HX.out.2.1.lower (by omega), by omega⟩, HX.out.2.2⟩
  by_cases e2 : z = 2
  · subst e2
    have hbx : Below w6.heap.size w6 (w6.alloc (.cells #[.string ⟨#[97]⟩] 9)) := (Below.refl _ _).alloc (Nat.le_refl _) _
    have hgi7 : (w6.alloc (.cells #[.string ⟨#[97]⟩] 9)).ownsRow w2.heap.size 9 1 (.slice ia nw ic) li.length (li.map .string) := owns_keep hg6i hbx
    have hg7 := hg6.keep hbx
    have hB7 : But w.heap.size w1 (w6.alloc (.cells #[.string ⟨#[97]⟩] 9)) := hB6.trans (But.of_below hbx)
    have hz6' := hB6.size
    clear hr6 hg6 hg6i hB6 hbx
    go_wp2_with (at_builtin; refine wpList_append_lies _ rfl _ _ 34 rfl w2.heap.size 9 i0 (.string .empty) 1 16 Try.underlying34 hi hz0 hz1 hz2 rfl (by decide) _ _ _ rfl hgi7 ⟨w6.heap.size, 0, none⟩ 1 1 [.string ⟨#[97]⟩] rfl rfl (one_new w6 _ _) (by simp [Value.oneCell']) (by decide) (by unfold maxLen; omega) (by omega) (by simp; omega) _ rfl ?_; intro g8 c8 w8 hown hgrow _ _)
    have hB8 : Below w.heap.size w w8 := hb1.trans ((hB7.grown hgrow (fun q e => by have := owns_from hgi7 q e; omega)).below (Nat.le_refl _) hb1.size)
    have hg8 := GathS.snoc hown
    have hf8 : GathF w8 w4.heap.size (.slice fa (3 + y) fc) Lf := hg7.grownS hgi7 hgrow
    exact bodyPost_ret (v := .tuple #[.slice (some ⟨g8, 0, none⟩) (li.length + 1) c8, .slice fa (3 + y) fc]) (by simp [results, Try.results28, go_sem, hll]) rfl ⟨⟨_, li ++ [⟨#[97]⟩], _, Lf, rfl, hg8.lower (by omega), by simp, by simp; omega, fun s hs => (List.mem_append.1 hs).elim (hs8 s) fun e => by simp at e; subst e; decide, hf8.lower (by omega), by omega⟩, hB8⟩
  by_cases e3 : z = 3
  · subst e3
    have hbx : Below w6.heap.size w6 (w6.alloc (.cells #[.string ⟨#[108, 111, 110, 101]⟩] 9)) := (Below.refl _ _).alloc (Nat.le_refl _) _
    have hgi7 : (w6.alloc (.cells #[.string ⟨#[108, 111, 110, 101]⟩] 9)).ownsRow w2.heap.size 9 1 (.slice ia nw ic) li.length (li.map .string) := owns_keep hg6i hbx
    have hg7 := hg6.keep hbx
    have hB7 : But w.heap.size w1 (w6.alloc (.cells #[.string ⟨#[108, 111, 110, 101]⟩] 9)) := hB6.trans (But.of_below hbx)
    have hz6' := hB6.size
    clear hr6 hg6 hg6i hB6 hbx
    go_wp2_with (at_builtin; refine wpList_append_lies _ rfl _ _ 34 rfl w2.heap.size 9 i0 (.string .empty) 1 16 Try.underlying34 hi hz0 hz1 hz2 rfl (by decide) _ _ _ rfl hgi7 ⟨w6.heap.size, 0, none⟩ 1 1 [.string ⟨#[108, 111, 110, 101]⟩] rfl rfl (one_new w6 _ _) (by simp [Value.oneCell']) (by decide) (by unfold maxLen; omega) (by omega) (by simp; omega) _ rfl ?_; intro g8 c8 w8 hown hgrow _ _)
    have hB8 : Below w.heap.size w w8 := hb1.trans ((hB7.grown hgrow (fun q e => by have := owns_from hgi7 q e; omega)).below (Nat.le_refl _) hb1.size)
    have hg8 := GathS.snoc hown
    have hf8 : GathF w8 w4.heap.size (.slice fa (3 + y) fc) Lf := hg7.grownS hgi7 hgrow
    exact bodyPost_ret (v := .tuple #[.slice (some ⟨g8, 0, none⟩) (li.length + 1) c8, .slice fa (3 + y) fc]) (by simp [results, Try.results28, go_sem, hll]) rfl ⟨⟨_, li ++ [⟨#[108, 111, 110, 101]⟩], _, Lf, rfl, hg8.lower (by omega), by simp, by simp; omega, fun s hs => (List.mem_append.1 hs).elim (hs8 s) fun e => by simp at e; subst e; decide, hf8.lower (by omega), by omega⟩, hB8⟩
  have x0 : (z == 0) = false := by rw [beq_eq_false_iff_ne]; exact e0
  have x1 : (z == 1) = false := by rw [beq_eq_false_iff_ne]; exact e1
  have x2 : (z == 2) = false := by rw [beq_eq_false_iff_ne]; exact e2
  have x3 : (z == 3) = false := by rw [beq_eq_false_iff_ne]; exact e3
  have HX : Hid (GathS w6 w.heap.size (.slice ia nw ic) li ∧ GathF w6 w.heap.size (.slice fa (3 + y) fc) Lf ∧ Below w.heap.size w w6) := ⟨hg6i.lower (by omega), hg6.lower (by omega), hb1.trans (hB6.below (Nat.le_refl _) hb1.size)⟩
  clear hr6 hg6 hg6i hB6 e0 e1 e2 e3 hwh6
  go_wp2_with fail
  exact bodyPost_ret (v := .tuple #[.slice ia nw ic, .slice fa (3 + y) fc]) (by simp [results, Try.results28, go_sem]) rfl ⟨⟨_, li, _, Lf, rfl, HX.out.1, by omega, by omega, hs8, HX.out.2.1, by omega⟩, HX.out.2.2⟩

end Go.Proofs.Ytpfhegengmlkmaa
/- Mathematics: a window is the last four of what was taken. -/
namespace Go.Proofs.Ytpfhegengmlkmaa

/-- The window is the last four of what was taken. -/
def KeepP (lw lt : List ItemL) : Prop := lw = lt.drop (lt.length - 4)
theorem keep_nil : KeepP [] [] := rfl
theorem keep_len {lw lt : List ItemL} (h : KeepP lw lt) : lw.length = min lt.length 4 := by
  rw [h, List.length_drop]; omega
theorem keep_put {lw lt : List ItemL} {it : ItemL} (h : KeepP lw lt) : KeepP (putL lw it) (lt ++ [it]) := by
  have hl := keep_len h
  unfold putL KeepP
  rw [List.length_append, List.length_singleton]
  split
  · rename_i h4
    have e : lw = lt := by rw [h, show lt.length - 4 = 0 by omega, List.drop_zero]
    rw [e, show lt.length + 1 - 4 = 0 by omega, List.drop_zero]
  · rename_i h4
    rw [List.drop_append_of_le_length (by omega), h, List.tail_drop]
    congr 2
    omega
theorem above_chain {l : List ItemL} (h : WinP l) {x : Int} {m : List (ByteArray × Int)} (ht : TakeP l m) : ∀ j, (hj : j + 1 < (l ++ [(x, m)]).length) → AboveP (l ++ [(x, m)])[j].2 (l ++ [(x, m)])[j + 1].2 := fun j hj => by
  rw [List.length_append, List.length_singleton] at hj
  by_cases e : j + 1 < l.length
  · rw [List.getElem_append_left (by omega), List.getElem_append_left e]
    exact h.2.2 j e
  · obtain rfl : j = l.length - 1 := by omega
    rw [List.getElem_append_left (by omega), List.getElem_append_right (by omega)]
    simp only [List.getElem_singleton]
    exact ht (by omega)
theorem win_put {l : List ItemL} (h : WinP l) {x : Int} {m : List (ByteArray × Int)} (hm : StampP m ∧ m ≠ []) (ht : TakeP l m) : WinP (putL l (x, m)) := by
  have h4 := h.1
  have hs : ∀ j, (hj : j < (l ++ [(x, m)]).length) → StampP (l ++ [(x, m)])[j].2 ∧ (l ++ [(x, m)])[j].2 ≠ [] := fun j hj => by
    by_cases e : j < l.length
    · rw [List.getElem_append_left e]; exact h.2.1 j e
    · rw [List.getElem_append_right (by omega)]
      simp only [List.getElem_singleton]
      exact hm
  have hc := above_chain h (x := x) ht
  unfold putL
  split
  · exact ⟨by simp; omega, hs, hc⟩
  · rename_i hf
    have e : l.tail ++ [(x, m)] = (l ++ [(x, m)]).tail := by cases l with
      | nil => simp at hf
      | cons y t => rfl
    rw [e]
    refine ⟨by simp; omega, fun j hj => ?_, fun j hj => ?_⟩
    · rw [List.getElem_tail]; exact hs _ _
    · simp only [List.getElem_tail]; exact hc (j + 1) (by simp at hj ⊢; omega)
theorem keep_last {lw lt : List ItemL} (h : KeepP lw lt) (h0 : 0 < lw.length) : ∃ h1 : 0 < lt.length, lw[lw.length - 1]'(by omega) = lt[lt.length - 1]'(by omega) := by
  have hl := keep_len h
  refine ⟨by omega, ?_⟩
  subst h
  rw [List.getElem_drop]
  congr 1
  rw [List.length_drop] at *
  omega

end Go.Proofs.Ytpfhegengmlkmaa
/- Walk: bsMarks. -/
namespace Go.Proofs.Ytpfhegengmlkmaa
open Go.RowKit Go.BigFrame
set_option maxRecDepth 100000

theorem take_eq_succ {la lb : List (ByteArray × Int)} {k : Nat} (h : la.take k = lb.take k) (ha : k < la.length) (hb : k < lb.length) (e : la[k] = lb[k]) : la.take (k + 1) = lb.take (k + 1) := by
  rw [List.take_succ_eq_append_getElem ha, List.take_succ_eq_append_getElem hb, h, e]

set_option maxHeartbeats 800000 in
theorem bsMarks_any (aa ab : Option Addr) (ca cb : Nat) (la lb : List (ByteArray × Int)) (w : World) (hla : la.length ≤ maxLen) (hlb : lb.length ≤ maxLen) (ha : Row w aa la) (hb : Row w ab lb) :
    Calls Try.prog 13 #[.slice aa la.length ca, .slice ab lb.length cb] w fun e w' => (∃ r : Bool, e = .returned (.bool r) ∧ (r = true ↔ la = lb)) ∧ Below w.heap.size w w' := by
  unfold maxLen at hla hlb
  go_enter Try.func13, Try.ntmps13
  by_cases hlen : la.length = lb.length
  · have hlen' : ((la.length : Int) != (lb.length : Int)) = false := by simp; omega
    go_wp2_with fail
    go_loopw [5] (fun i wr => ∃ k : Nat, k ≤ la.length ∧ i = .int .i64 k ∧ la.take k = lb.take k ∧ Below w.heap.size w wr) (fun i _ => la.length - (intOf i).toNat)
    case atStart => exact ⟨0, Nat.zero_le _, rfl, rfl, Below.refl _ _⟩
    case round =>
      obtain ⟨k, hk, rfl, hinv, hbl⟩ := hrel
      by_cases hlt : k < la.length
      · have hltb : k < lb.length := by omega
        obtain ⟨b1, o1, rfl, hlt1, c0, c1⟩ := ha k hlt
        obtain ⟨b2, o2, rfl, hlt2, d0, d1⟩ := hb k hltb
        have e0 := cell_on hbl hlt1 c0
        have e1 := cell_on hbl hlt1 c1
        have f0 := cell_on hbl hlt2 d0
        have f1 := cell_on hbl hlt2 d1
        have k0 : (0 : Int) ≤ (k : Int) := by omega
        have k1 : (k : Int) < (la.length : Int) := by omega
        have k2 : (k : Int) < (lb.length : Int) := by omega
        by_cases hs : la[k].1 = lb[k].1
        · have hs' : (la[k].1.toList == lb[k].1.toList) = true := toList_beq.2 hs
          by_cases hv : la[k].2 = lb[k].2
          · have hv' : (la[k].2 == lb[k].2) = true := by simp [hv]
            go_wp2_with fail
            go_quiet (fail)
            go_wp2_with fail
            exact ⟨⟨k + 1, by omega, by go_num, take_eq_succ hinv hlt hltb (Prod.ext hs hv), below_drewN hbl _⟩, by simp [intOf]; omega⟩
          · have hv' : (la[k].2 == lb[k].2) = false := by simp [hv]
            go_wp2_with fail
            go_quiet (fail)
            go_wp2_with fail
            go_ret
            exact ⟨⟨false, rfl, by simp; rintro rfl; exact hv rfl⟩, below_drewN hbl _⟩
        · have hs' : (la[k].1.toList == lb[k].1.toList) = false := toList_bne.2 hs
          go_wp2_with fail
          go_quiet (fail)
          go_wp2_with fail
          go_ret
          exact ⟨⟨false, rfl, by simp; rintro rfl; exact hs rfl⟩, below_drewN hbl _⟩
      · have hfin : la = lb := by
          rw [List.take_of_length_le (by omega), List.take_of_length_le (by omega)] at hinv
          exact hinv
        have HF : Hid (la = lb) := hfin
        clear hfin hinv
        go_wp2_with fail
        go_ret
        exact ⟨⟨true, rfl, by simp [HF.out]⟩, hbl⟩
  · have hlen' : ((la.length : Int) != (lb.length : Int)) = true := by simp; omega
    go_wp2_with fail
    go_ret
    exact ⟨⟨false, rfl, by simp; rintro rfl; exact hlen rfl⟩, Below.refl _ _⟩

end Go.Proofs.Ytpfhegengmlkmaa
/- Walks: bsItem, bsItems at two rows of the same items. -/
namespace Go.Proofs.Ytpfhegengmlkmaa
open Go.RowKit Go.BigFrame
set_option maxRecDepth 100000

theorem bsMarks_same (aa ab : Option Addr) (ca cb : Nat) (l : List (ByteArray × Int)) (w : World) (hl : l.length ≤ maxLen) (ha : Row w aa l) (hb : Row w ab l) :
    Calls Try.prog 13 #[.slice aa l.length ca, .slice ab l.length cb] w fun e w' => e = .returned (.bool true) ∧ Below w.heap.size w w' :=
  (bsMarks_any aa ab ca cb l l w hl hl ha hb).mono fun _ _ ⟨⟨r, he, hr⟩, h⟩ => ⟨by rw [he, hr.2 rfl], h⟩

set_option maxHeartbeats 800000 in
theorem bsItem_same (x : Int) (a1 a2 : Option Addr) (c1 c2 : Nat) (l : List (ByteArray × Int)) (w : World) (hl : l.length ≤ maxLen) (h1 : Row w a1 l) (h2 : Row w a2 l) :
    Calls Try.prog 34 #[.agg #[.int .i64 x, .slice a1 l.length c1], .agg #[.int .i64 x, .slice a2 l.length c2]] w fun e w' => e = .returned (.bool true) ∧ Below w.heap.size w w' := by
  go_enter Try.func34, Try.ntmps34
  go_wp2_with fail
  have hb0 : Below w.heap.size w ((w.alloc (.cells #[.int .i64 x, .slice a1 l.length c1] 45)).alloc (.cells #[.int .i64 x, .slice a2 l.length c2] 45)) := ((Below.refl _ _).alloc (Nat.le_refl _) _).alloc (by simp) _
  refine (bsMarks_same a1 a2 c1 c2 l _ hl (h1.below hb0) (h2.below hb0)).mono ?_
  rintro e w1 ⟨rfl, b1⟩
  have B1 : Below w.heap.size w w1 := hb0.trans (b1.mono hb0.size)
  go_wp2_with fail
  go_ret
  exact ⟨rfl, B1⟩

set_option maxHeartbeats 1600000 in
theorem bsItems_same (a b : Option Addr) (ca cb : Nat) (l : List ItemL) (w : World) (hf : FitI l) (ha : RowI w a l) (hb : RowI w b l) :
    Calls Try.prog 31 #[.slice a l.length ca, .slice b l.length cb] w fun e w' => e = .returned (.bool true) ∧ Below w.heap.size w w' := by
  have hl := hf.1
  unfold maxLen at hl
  go_enter Try.func31, Try.ntmps31
  go_wp2_with fail
  go_loopw [5] (fun i wr => ∃ k : Nat, k ≤ l.length ∧ i = .int .i64 k ∧ Below w.heap.size w wr) (fun i _ => l.length - (intOf i).toNat)
  case atStart => exact ⟨0, Nat.zero_le _, rfl, Below.refl _ _⟩
  case round =>
    obtain ⟨k, hk, rfl, hbl⟩ := hrel
    by_cases hlt : k < l.length
    · obtain ⟨b1, o1, rfl, g1, e0, v1, e1, ⟨s1, t1, rfl, _, r1⟩⟩ := ha.below hbl k hlt
      obtain ⟨b2, o2, rfl, g2, f0, v2, f1, ⟨s2, t2, rfl, _, r2⟩⟩ := hb.below hbl k hlt
      have k0 : (0 : Int) ≤ (k : Int) := by omega
      have k1 : (k : Int) < (l.length : Int) := by omega
      have hlk := (hf.2 k hlt).1
      go_wp2_with fail
      refine wp_region_lat (by kernel_rfl) (by kernel_rfl) ?_
      have hne := Lat.some wr
      have q0 : ∀ n : Lat wr, n.w.cell? ⟨b1, o1 + k * 2, none⟩ = some (.int .i64 l[k].1) := fun n => n.cell g1 e0
      have q1 : ∀ n : Lat wr, n.w.cell? ⟨b1, o1 + k * 2 + 1, none⟩ = some (.slice s1 l[k].2.length t1) := fun n => n.cell g1 e1
      have q2 : ∀ n : Lat wr, n.w.cell? ⟨b2, o2 + k * 2, none⟩ = some (.int .i64 l[k].1) := fun n => n.cell g2 f0
      have q3 : ∀ n : Lat wr, n.w.cell? ⟨b2, o2 + k * 2 + 1, none⟩ = some (.slice s2 l[k].2.length t2) := fun n => n.cell g2 f1
      have ce : ∀ n : Lat wr, Calls Try.prog 34 #[.agg #[.int .i64 l[k].1, .slice s1 l[k].2.length t1], .agg #[.int .i64 l[k].1, .slice s2 l[k].2.length t2]] n.w fun e w'' => e = .returned (.bool true) ∧ Below n.w.heap.size n.w w'' := fun n => bsItem_same _ _ _ _ _ _ _ hlk (r1.below n.h) (r2.below n.h)
      repeat (go_big_quiet_step ((go_at_call 34; exact Calls.lat_of (ce _))))
      refine wpQuiet_nil ?_
      rintro _ ⟨nq, rfl⟩
      go_wp2_with fail
      exact ⟨⟨k + 1, by omega, by go_num, hbl.trans (nq.h.mono hbl.size)⟩, by simp [intOf]; omega⟩
    · go_wp2_with fail
      go_ret
      exact ⟨rfl, hbl⟩

end Go.Proofs.Ytpfhegengmlkmaa
/- Walks: eqMark, eqMarkS at two rows of the same marks. -/
namespace Go.Proofs.Ytpfhegengmlkmaa
open Go.RowKit Go.BigFrame

end Go.Proofs.Ytpfhegengmlkmaa
/- Walks: eqItem, eqItemS at two rows of the same items. -/
namespace Go.Proofs.Ytpfhegengmlkmaa
open Go.RowKit Go.BigFrame

end Go.Proofs.Ytpfhegengmlkmaa
/- The walk of impl.WindowOk and of the law FnExactWindowOk. -/
namespace Go.Proofs.Ytpfhegengmlkmaa
open Go.RowKit Go.BigFrame
set_option maxRecDepth 100000

theorem fit_small {l : List ItemL} (h : SmallI 1048576 l) : l.length ≤ 1048576 ∧ ∀ j, (hj : j < l.length) → l[j].2.length ≤ 1048576 := ⟨by have := h.1; omega, fun j hj => by have := (h.2 j hj).1; omega⟩

set_option maxHeartbeats 800000 in
theorem implWinOk_any (a : Option Addr) (cap : Nat) (l : List ItemL) (w : World) (hf : FitI l) (hr : RowI w a l) :
    Calls Try.prog 33 #[.slice a l.length cap] w fun e w' => IsB (WinP l) e ∧ Below w.heap.size w w' := by
  go_enter Try.func33, Try.ntmps33
  go_wp2_with fail
  refine (readWindow_any a cap l _ hf hr).mono ?_
  rintro e w1 ⟨hE, b1⟩
  rcases hE with ⟨v, rfl, hp, hv⟩ | ⟨v, rfl, hp, hv⟩
  · have HP : Hid (WinP l) := hp
    clear hp
    obtain ⟨x0, x1, x2, x3, a0, a1, a2, a3, n0, n1, n2, n3, c0, c1, c2, c3, rfl, _⟩ := hv.laid
    go_wp2_with fail
    go_ret
    exact ⟨isB_true HP.out, b1.alloc b1.size _⟩
  · have HP : Hid (¬ WinP l) := hp
    clear hp
    obtain ⟨x0, x1, x2, x3, a0, a1, a2, a3, n0, n1, n2, n3, c0, c1, c2, c3, rfl, _⟩ := hv.laid
    go_wp2_with fail
    go_ret
    exact ⟨isB_false HP.out, b1.alloc b1.size _⟩

end Go.Proofs.Ytpfhegengmlkmaa
/- The walk of the law FnWindowKeeps. -/
namespace Go.Proofs.Ytpfhegengmlkmaa
open Go.RowKit Go.BigFrame
set_option maxRecDepth 100000

theorem GathF.cells {w : World} {B g n cap : Nat} {L : List FeedL} (h : GathF w B (.slice (some ⟨g, 0, none⟩) n cap) L) (hn : n = L.length) {j : Nat} (hj : j < L.length) : w.cell? ⟨g, j * 3 + 1, none⟩ = some (.int .i64 L[j].2.1.1) ∧ w.cell? ⟨g, j * 3 + 2, none⟩ = some (.slice L[j].2.2.1 L[j].2.1.2.length L[j].2.2.2) := by
  subst hn
  have h2 := fcells_at L j hj
  exact ⟨(World.ownsRow.cellAt h.1 (j * 3 + 1) (by omega)).trans h2.2.1, (World.ownsRow.cellAt h.1 (j * 3 + 2) (by omega)).trans h2.2.2⟩
theorem GathF.some {w : World} {B n cap : Nat} {a : Option Addr} {L : List FeedL} (h : GathF w B (.slice a n cap) L) (h0 : 0 < L.length) : ∃ g, a = Option.some ⟨g, 0, none⟩ := by
  obtain ⟨g, cap', e, _⟩ := World.ownsRow.form h.1 h0
  exact ⟨g, by simpa using (Value.slice.inj e).1⟩
/-- An append onto a row of items leaves feeds as they were. -/
theorem GathF.grownI {w w' : World} {B B2 : Nat} {v v2 : Value} {L : List FeedL} {n : Nat} {xs : List Value} (h : GathF w B v L) (ho : w.ownsRow B2 45 2 v2 n xs) (hg : w.grownBy w' v2.ownBlock) : GathF w' B v L := by
  refine ⟨owns_grown h.1 hg (fun g e => ?_), fun p hp => ⟨(h.2 p hp).1.grown ho (by decide) hg, (h.2 p hp).2⟩⟩
  have hr : ∃ m f, w.rowIs g 47 m f := by
    rcases h.1.2 with ⟨rfl, _⟩ | ⟨g', cap, cur, rfl, _, hh, _⟩
    · cases e
    · obtain rfl : g' = g := by simpa [Value.ownBlock] using e
      exact ⟨cur.size, fun i => (cur[i]?).getD undef, cur, hh, rfl, fun i hi => by simp [Array.getElem?_eq_getElem hi]⟩
  obtain ⟨m, f, hr⟩ := hr
  exact owns_type ho hr (by decide)
theorem GathJ.two {w : World} {B : Nat} {v : Value} {L : List (ItemL × Option Addr × Nat)} (h : GathJ w B v L) : ∃ a cap, v = .slice a L.length cap ∧ L.length ≤ cap ∧ ((a = none ∧ L = []) ∨ ∃ g, a = Option.some ⟨g, 0, none⟩) := by
  rcases h.1.2 with ⟨e, h0⟩ | ⟨g, cap, cur, e, _, _, hn, _⟩
  · exact ⟨_, _, by rw [h0]; exact e, by omega, .inl ⟨rfl, List.length_eq_zero_iff.1 h0⟩⟩
  · exact ⟨_, _, e, hn, .inr ⟨g, rfl⟩⟩
theorem RowI.drop {w : World} {b o : Nat} {l : List ItemL} (h : RowI w (some ⟨b, o, none⟩) l) (k : Nat) : RowI w (some ⟨b, o + k * 2, none⟩) (l.drop k) := fun j hj => by
  have hj' : k + j < l.length := by rw [List.length_drop] at hj; omega
  obtain ⟨b', o', e, h1, h2, v, h3, h4⟩ := h (k + j) hj'
  obtain ⟨rfl, rfl⟩ : b = b' ∧ o = o' := by simpa using e
  have e1 : o + k * 2 + j * 2 = o + (k + j) * 2 := by omega
  refine ⟨b, o + k * 2, rfl, h1, ?_, v, ?_, ?_⟩
  · rw [e1, List.getElem_drop]; exact h2
  · rw [e1]; exact h3
  · rw [List.getElem_drop]; exact h4
/-- An append onto an older row leaves what was gathered later as it was. -/
theorem GathI.later {w w' : World} {B : Nat} {row : Option Nat} {v : Value} {l : List ItemL} (h : GathI w B v l) (hg : w.grownBy w' row) (hr : ∀ k, row = some k → k < B) : GathI w' B v l := by
  obtain ⟨L, e, ho, hm, hd⟩ := h
  refine ⟨L, e, owns_grown ho hg (fun g q q' => ?_), fun p hp => ⟨(hm p hp).1, (hm p hp).2.1.grown hg (fun q => ?_), (hm p hp).2.2⟩, hd⟩
  · have h1 := owns_from ho g q
    have h2 := hr g q'.symm
    omega
  · have h1 := (hm p hp).2.2
    have h2 := hr _ q.symm
    omega

set_option maxHeartbeats 12800000 in
theorem lawKeeps_any (ab : Option Addr) (n c : Nat) (w : World) (h : Bytes w ab n c) (hn : n ≤ maxLen) :
    Calls Try.prog 7 #[.slice ab n c] w fun e w' => e = .returned (.bool true) ∧ Below w.heap.size w w' := by
  unfold maxLen at hn
  by_cases hbig : 1048576 < n
  · have hbig' : decide ((1048576 : Int) < (n : Int)) = true := decide_eq_true (by omega)
    go_enter Try.func7, Try.ntmps7
    go_wp2_with fail
    go_ret
    exact ⟨rfl, Below.refl _ _⟩
  have hbig' : decide ((1048576 : Int) < (n : Int)) = false := decide_eq_false (by omega)
  go_enter Try.func7, Try.ntmps7
  go_wp2_with fail
  refine (drawPlay_any ab n c _ h).mono ?_
  rintro e w1 ⟨⟨vi, li, vf, Lf, rfl, hgi, _, _, _, hg1, hfl⟩, B1⟩
  obtain ⟨ia, ic, rfl, _⟩ := hgi.shape
  obtain ⟨fa, fc, rfl⟩ : ∃ a cap, vf = .slice a Lf.length cap := by
    rcases hg1.1.2 with ⟨e, h0⟩ | ⟨g, cap, cur, e, _⟩
    · exact ⟨_, _, by rw [h0]; exact e⟩
    · exact ⟨_, _, e⟩
  clear hgi h
  go_wp2_with fail
  go_loopw [5, 6, 7] (fun wv tv i wr => ∃ (k : Nat) (lw : List ItemL) (T : List (ItemL × Option Addr × Nat)), k ≤ 40 ∧ i = .int .i64 k ∧ GathI wr w.heap.size wv lw ∧ GathJ wr w.heap.size tv T ∧ GathF wr w.heap.size (.slice fa Lf.length fc) Lf ∧ Hid (WinP lw ∧ KeepP lw (T.map (·.1))) ∧ T.length ≤ k ∧ FewI k (T.map (·.1)) ∧ Below w.heap.size w wr) (fun _ _ i _ => 40 - (intOf i).toNat)
  case atStart => exact ⟨0, [], [], by omega, rfl, gathI_none _ _, gathJ_none _ _, hg1, ⟨⟨by simp, fun j hj => absurd hj (Nat.not_lt_zero j), fun j hj => absurd hj (Nat.not_lt_zero _)⟩, keep_nil⟩, by simp, FewI.nil _, B1⟩
  case round =>
    obtain ⟨k, lw, T, hk40, rfl, hgw, hgt, hgf, HWK, hTk, hfew, B2⟩ := hrel
    clear hg1 B1
    by_cases h1 : k < Lf.length
    · by_cases h2 : k < 40
      · obtain ⟨g, rfl⟩ := hgf.some (by omega)
        have c1 := (hgf.cells rfl h1).1
        have c2 := (hgf.cells rfl h1).2
        obtain ⟨hsl, hml, hms⟩ := hgf.2 _ (List.getElem_mem h1)
        generalize Lf[k] = fd at *
        obtain ⟨In, ⟨x, m⟩, ma, mc⟩ := fd
        simp only at c1 c2 hsl hml hms
        obtain ⟨wa, wc, rfl, hwc, hsw⟩ := hgw.safe
        have hstw : StampsP lw := ⟨by have := HWK.out.1.1; omega, fun j hj => (HWK.out.1.2.1 j hj).1⟩
        have hfw := hstw.fit
        have hfm : FitM m := ⟨by unfold maxLen; omega, fun i hi => by have := hms _ (List.getElem_mem hi); unfold maxLen; omega⟩
        have k0 : (0 : Int) ≤ (k : Int) := by omega
        have k1 : (k : Int) < (Lf.length : Int) := by omega
        have hlw5 := hstw.1
        clear hstw
        go_wp2_with fail
        have hbI : Below wr.heap.size wr (wr.alloc (.cells #[.int .i64 x, .slice ma m.length mc] 45)) := (Below.refl _ _).alloc (Nat.le_refl _) _
        have d0 := box0 wr (.int .i64 x) (.slice ma m.length mc) 45
        have d1 := box1 wr (.int .i64 x) (.slice ma m.length mc) 45
        have zi := box_lt wr (.cells #[.int .i64 x, .slice ma m.length mc] 45)
        have B3 : Below w.heap.size w (wr.alloc (.cells #[.int .i64 x, .slice ma m.length mc] 45)) := B2.trans (hbI.mono B2.size)
        replace hsw := hsw.below hbI
        replace hsl := hsl.keep hbI
        replace hgt := hgt.keep hbI
        replace hgf := hgf.keep hbI
        replace hgw := hgw.keep hbI
        generalize wr.alloc (.cells #[.int .i64 x, .slice ma m.length mc] 45) = W3 at *
        generalize wr.heap.size = bi at *
        clear hbI c1 c2 B2
        have hz3 := B3.size
        refine (implPut_any wa wc lw x ma mc m W3 hfw hsw.row hfm hsl.1 hsl.row).mono ?_
        rintro e w4 ⟨⟨v4, r, cd, rfl, hP, hg4⟩, b4⟩
        have HP : Hid (IsP lw x m r cd) := hP
        have hstr := isP_stamps hP
        have hfr := hstr.fit
        have hr5 := hstr.1
        obtain ⟨a4, q4, c4, rfl⟩ := hg4.slice
        have B4 : Below w.heap.size w w4 := B3.trans (b4.mono B3.size)
        replace hsw := hsw.below b4
        replace d0 := cell_on b4 (by omega) d0
        replace d1 := cell_on b4 (by omega) d1
        replace hsl := hsl.keep b4
        replace hgf := hgf.keep b4
        replace hgw := hgw.keep b4
        have hgtl : ∀ q, (Value.ownBlock u6) = some q → q < W3.heap.size := fun q e => owns_lt hgt.1 e
        replace hgt := hgt.keep b4
        have z4 := b4.size
        clear b4 B3 hP hstr
        go_wp2_with fail
        refine (specPut_any wa wc lw x ma mc m w4 hfw hsw.row hfm hsl.row).mono ?_
        rintro e w5 ⟨⟨v5, r', cd', rfl, hP', hg5⟩, b5⟩
        obtain ⟨rfl, rfl⟩ := HP.out.one hP'
        obtain ⟨a4', c4', e4, hc4, hs4⟩ := hg4.safe
        obtain ⟨rfl, rfl, rfl⟩ : a4 = a4' ∧ q4 = r.length ∧ c4 = c4' := by simpa using e4
        obtain ⟨a5, c5, rfl, hc5, hs5⟩ := hg5.safe
        have B5 : Below w.heap.size w w5 := B4.trans (b5.mono B4.size)
        replace hs4 := hs4.below b5
        replace d0 := cell_on b5 (by omega) d0
        replace d1 := cell_on b5 (by omega) d1
        replace hsl := hsl.keep b5
        replace hgf := hgf.keep b5
        replace hgw := hgw.keep b5
        replace hgt := hgt.keep b5
        replace hg4 := hg4.keep b5
        have z5 := b5.size
        clear b5 B4 hP' hg5 hsw e4
        go_wp2_with fail
        refine (bsItems_same a4 a5 c4 c5 r w5 hfr hs4.row hs5.row).mono ?_
        rintro e w6 ⟨rfl, b6⟩
        have B6 : Below w.heap.size w w6 := B5.trans (b6.mono B5.size)
        replace hs4 := hs4.below b6
        replace d0 := cell_on b6 (by omega) d0
        replace d1 := cell_on b6 (by omega) d1
        replace hsl := hsl.keep b6
        replace hgf := hgf.keep b6
        replace hgw := hgw.keep b6
        replace hgt := hgt.keep b6
        replace hg4 := hg4.keep b6
        have z6 := b6.size
        clear b6 B5 hs5
        by_cases hp : WinP lw ∧ StampP m ∧ m ≠ []
        · have h1c : (cd == 1) = false := by
            by_cases ht : TakeP lw m
            · rw [(HP.out.2.2 hp ht).2]; rfl
            · rw [(HP.out.2.1 hp ht).2]; rfl
          go_upto_if 63 with fail
          go_cut [6] (fun tv wx => ∃ T2 : List (ItemL × Option Addr × Nat), GathJ wx w.heap.size tv T2 ∧ GathI wx w.heap.size (.slice a4 r.length c4) r ∧ GathF wx w.heap.size (.slice (some ⟨g, 0, none⟩) Lf.length fc) Lf ∧ Hid (WinP r ∧ KeepP r (T2.map (·.1))) ∧ T2.length ≤ k + 1 ∧ FewI (k + 1) (T2.map (·.1)) ∧ Below w.heap.size w wx)
          case first =>
            by_cases ht : TakeP lw m
            · obtain ⟨rfl, rfl⟩ := HP.out.2.2 hp ht
              have hbx : Below w6.heap.size w6 (w6.alloc (.cells #[.int .i64 x, .slice ma m.length mc] 45)) := (Below.refl _ _).alloc (Nat.le_refl _) _
              have B7 := B6.trans (hbx.mono B6.size)
              have hz7 := B7.size
              go_wp2_with (at_builtin; refine wpList_append_itemJ rfl _ _ rfl w.heap.size _ T rfl (hgt.keep hbx) hz7 w6.heap.size ((x, m), ma, mc) rfl (box0 _ _ _ _) (box1 _ _ _ _) (hsl.keep hbx) (by omega) ?_; intro v' w8 hg8 hgr)
              go_meet
              exact ⟨T ++ [((x, m), ma, mc)], hg8, ((hg4.keep hbx).later hgr hgtl).lower (by omega), (hgf.keep hbx).grownI (hgt.keep hbx).1 hgr, ⟨win_put hp.1 hp.2 ht, by rw [List.map_append]; exact keep_put HWK.out.2⟩, by simp; omega, by rw [List.map_append]; exact hfew.snoc ⟨hml, hms⟩, B7.grown hgr hz7 (owns_from (hgt.keep hbx).1)⟩
            · obtain ⟨rfl, rfl⟩ := HP.out.2.1 hp ht
              go_wp2_with fail
              go_meet
              exact ⟨T, hgt, hg4.lower (by omega), hgf, HWK, by omega, hfew.mono (by omega), B6⟩
          case rest =>
            obtain ⟨T2, hgt, hg4, hgf, HWK2, hT2, hfew2, B7⟩ := hcut
            clear hs4 d0 d1 hsl hgtl B6 h1c HWK HP hfew hgw
            have hz7 := B7.size
            obtain ⟨ta, tc, rfl, htc, hta⟩ := hgt.two
            have hT41 : T2.length ≤ 41 := by omega
            go_upto_if 73 with fail
            go_cut [13] (fun kv wx => kv = .int .i64 ((T2.length - 4 : Nat) : Int) ∧ Hid (GathJ wx w.heap.size (.slice ta T2.length tc) T2 ∧ GathI wx w.heap.size (.slice a4 r.length c4) r ∧ GathF wx w.heap.size (.slice (some ⟨g, 0, none⟩) Lf.length fc) Lf ∧ Below w.heap.size w wx))
            case first =>
              by_cases h4 : 4 ≤ T2.length
              · have h4' : decide ((T2.length : Int) - 4 < 0) = false := decide_eq_false (by omega)
                go_wp2_with fail
                go_meet
                exact ⟨by go_num, hgt, hg4, hgf, B7⟩
              · have h4' : decide ((T2.length : Int) - 4 < 0) = true := decide_eq_true (by omega)
                go_wp2_with fail
                go_meet
                exact ⟨by rw [show T2.length - 4 = 0 by omega]; rfl, hgt, hg4, hgf, B7⟩
            case rest =>
              obtain ⟨rfl, HH⟩ := hcut
              clear hgt hg4 hgf B7
              rename GathF w6 _ _ _ => hgf6
              rename GathJ w6 _ _ _ => hgt6
              rename GathI w6 _ _ _ => hg46
              clear hgf6 hgt6 hg46
              obtain ⟨hgt, hg4, hgf, B7⟩ := HH.out
              obtain ⟨a4', c4', e4, _, hs4⟩ := hg4.safe
              obtain ⟨rfl, rfl⟩ : a4 = a4' ∧ c4 = c4' := by simpa using e4
              clear e4 HH
              generalize hkk : T2.length - 4 = kk
              have hz7 := B7.size
              go_wp2_with fail
              refine (implLast_any a4 c4 r _ hfr hs4.row).mono ?_
              rintro e w9 ⟨⟨x9, a9, c9, m9, ok, rfl, hL, hc9, hs9⟩, b9⟩
              have HL : Hid (IsL r x9 m9 ok) := hL
              have hbx : Below w9.heap.size w9 (w9.alloc (.cells #[.int .i64 x9, .slice a9 m9.length c9] 45)) := (Below.refl _ _).alloc (Nat.le_refl _) _
              have B9 : Below w.heap.size w w9 := B7.trans (b9.mono B7.size)
              have B10 := B9.trans (hbx.mono B9.size)
              have d0 := box0 w9 (.int .i64 x9) (.slice a9 m9.length c9) 45
              have d1 := box1 w9 (.int .i64 x9) (.slice a9 m9.length c9) 45
              have z9 := box_lt w9 (.cells #[.int .i64 x9, .slice a9 m9.length c9] 45)
              replace hs4 := (hs4.below b9).below hbx
              replace hs9 := hs9.below hbx
              replace hgf := (hgf.keep b9).keep hbx
              replace hgt := (hgt.keep b9).keep hbx
              replace hg4 := (hg4.keep b9).keep hbx
              clear b9 B9 B7 hL
              go_wp2_with fail
              generalize w9.alloc (.cells #[.int .i64 x9, .slice a9 m9.length c9] 45) = W10 at *
              generalize w9.heap.size = b9 at *
              clear hbx
              refine (implWinOk_any a4 c4 r _ hfr hs4.row).mono ?_
              rintro e w11 ⟨⟨rr, rfl, hrr⟩, b11⟩
              obtain rfl : rr = true := hrr.2 HWK2.out.1
              have B11 : Below w.heap.size w w11 := B10.trans (b11.mono B10.size)
              replace hs4 := hs4.below b11
              replace hs9 := hs9.below b11
              replace d0 := cell_on b11 (by omega) d0
              replace d1 := cell_on b11 (by omega) d1
              replace hgf := hgf.keep b11
              replace hgt := hgt.keep b11
              replace hg4 := hg4.keep b11
              have z11 := b11.size
              clear b11 B10 hrr
              have k2 : (0 : Int) ≤ (kk : Int) := by omega
              have k3 : (kk : Int) ≤ (T2.length : Int) := by omega
              have k4 : (T2.length : Int) ≤ (tc : Int) := by omega
              by_cases hT0 : 0 < T2.length
              · obtain ⟨g2, rfl⟩ := hgt.some hT0
                have hr0 : 0 < r.length := by
                  have := keep_len HWK2.out.2
                  rw [List.length_map] at this
                  omega
                obtain ⟨rfl, hx9⟩ := HL.out.1 ⟨HWK2.out.1, hr0⟩
                obtain ⟨h1m, hlast⟩ := keep_last HWK2.out.2 hr0
                have hit : (x9, m9) = (T2[T2.length - 1]'(by omega)).1 := by simpa using hx9.trans hlast
                have hkt : kk < tc := by omega
                have hdrop : r = (T2.map (·.1)).drop kk := by
                  have := HWK2.out.2
                  unfold KeepP at this
                  rw [List.length_map, hkk] at this
                  exact this
                have hrow : RowI w11 (some ⟨g2, kk * 2, none⟩) r := by
                  have := hgt.rowOf.drop kk
                  rw [← hdrop, Nat.zero_add] at this
                  exact this
                have hlr : T2.length - kk = r.length := by rw [hdrop]; simp
                have hm9 := (hfr.2 (r.length - 1) (by omega)).1
                rw [← hx9] at hm9
                have HD : Hid (T2.length - kk = r.length) := hlr
                have HG : Hid (GathF w11 w.heap.size (.slice (some ⟨g, 0, none⟩) Lf.length fc) Lf ∧ GathI w11 w.heap.size (.slice a4 r.length c4) r) := ⟨hgf, hg4⟩
                clear hdrop hlr hlast hx9 hgf hg4
                go_wp2_with fail
                rw [HD.out]
                refine (bsItems_same a4 _ c4 _ r w11 hfr hs4.row hrow).mono ?_
                rintro e w12 ⟨rfl, b12⟩
                have B12 : Below w.heap.size w w12 := B11.trans (b12.mono B11.size)
                replace hs9 := hs9.below b12
                replace d0 := cell_on b12 (by omega) d0
                replace d1 := cell_on b12 (by omega) d1
                replace hgt := hgt.keep b12
                have HG2 : Hid (GathF w12 w.heap.size (.slice (some ⟨g, 0, none⟩) Lf.length fc) Lf ∧ GathI w12 w.heap.size (.slice a4 r.length c4) r) := ⟨HG.out.1.keep b12, HG.out.2.keep b12⟩
                clear b12 HG B11 hs4 hrow
                have e0 := (hgt.cells (j := T2.length - 1) (by omega)).1
                have e1 := (hgt.cells (j := T2.length - 1) (by omega)).2
                have hsl := hgt.2 _ (List.getElem_mem (by omega : T2.length - 1 < T2.length))
                generalize T2[T2.length - 1]'(by omega) = it at *
                obtain ⟨⟨t1, t2⟩, t3, t4⟩ := it
                simp only at e0 e1 hsl hit
                obtain ⟨rfl, rfl⟩ := Prod.mk.inj hit
                have hkm : ((T2.length : Int) - 1) = ((T2.length - 1 : Nat) : Int) := by omega
                have k5 : (0 : Int) ≤ ((T2.length - 1 : Nat) : Int) := by omega
                have k6 : ((T2.length - 1 : Nat) : Int) < (T2.length : Int) := by omega
                have k7 : decide ((0 : Int) < (T2.length : Int)) = true := decide_eq_true (by omega)
                go_wp2_with fail
                refine wp_region_lat (by kernel_rfl) (by kernel_rfl) ?_
                have hne := Lat.some w12
                have q0 : ∀ n : Lat w12, n.w.cell? ⟨b9, 0, none⟩ = some (.int .i64 x9) := fun n => n.cell (block_lt_of_cell d0) d0
                have q1 : ∀ n : Lat w12, n.w.cell? ⟨b9, 1, none⟩ = some (.slice a9 m9.length c9) := fun n => n.cell (block_lt_of_cell d1) d1
                have q2 : ∀ n : Lat w12, n.w.cell? ⟨g2, (T2.length - 1) * 2, none⟩ = some (.int .i64 x9) := fun n => n.cell (block_lt_of_cell e0) e0
                have q3 : ∀ n : Lat w12, n.w.cell? ⟨g2, (T2.length - 1) * 2 + 1, none⟩ = some (.slice t3 m9.length t4) := fun n => n.cell (block_lt_of_cell e1) e1
                have ce : ∀ n : Lat w12, Calls Try.prog 34 #[.agg #[.int .i64 x9, .slice a9 m9.length c9], .agg #[.int .i64 x9, .slice t3 m9.length t4]] n.w fun e w'' => e = .returned (.bool true) ∧ Below n.w.heap.size n.w w'' := fun n => bsItem_same _ _ _ _ _ _ _ hm9 (hs9.row.below n.h) (hsl.row.below n.h)
                repeat (go_big_quiet_step ((go_at_call 34; exact Calls.lat_of (ce _))))
                refine wpQuiet_nil ?_
                rintro _ ⟨nq, rfl⟩
                have b13 := nq.h
                have B13 : Below w.heap.size w nq.w := B12.trans (b13.mono B12.size)
                have HG3 : Hid (GathJ nq.w w.heap.size (.slice (some ⟨g2, 0, none⟩) T2.length tc) T2 ∧ GathF nq.w w.heap.size (.slice (some ⟨g, 0, none⟩) Lf.length fc) Lf ∧ GathI nq.w w.heap.size (.slice a4 r.length c4) r) := ⟨hgt.keep b13, HG2.out.1.keep b13, HG2.out.2.keep b13⟩
                clear b13 HG2 B12 hgt hs9 d0 d1 e0 e1 hsl q0 q1 q2 q3 ce
                go_wp2_with fail
                exact ⟨⟨k + 1, r, T2, by omega, by go_num, HG3.out.2.2, HG3.out.1, HG3.out.2.1, HWK2, hT2, hfew2, B13⟩, by simp [intOf]; omega⟩
              · obtain rfl : T2 = [] := List.length_eq_zero_iff.1 (by omega)
                obtain rfl : r = [] := by have := HWK2.out.2; simpa [KeepP] using this
                obtain ⟨rfl, _, _⟩ := HL.out.2 (by simp)
                obtain rfl : kk = 0 := by simpa using hkk.symm
                have hrow : ∀ a, RowI w11 a [] := fun a k hk => absurd hk (Nat.not_lt_zero k)
                have HG : Hid (GathF w11 w.heap.size (.slice (some ⟨g, 0, none⟩) Lf.length fc) Lf ∧ GathI w11 w.heap.size (.slice a4 0 c4) []) := ⟨hgf, hg4⟩
                clear hgf hg4
                rcases hta with ⟨rfl, _⟩ | ⟨g2, rfl⟩
                · go_wp2_with fail
                  refine (bsItems_same a4 _ c4 _ [] w11 hfr (hrow _) (hrow _)).mono ?_
                  rintro e w12 ⟨rfl, b12⟩
                  have B12 : Below w.heap.size w w12 := B11.trans (b12.mono B11.size)
                  have HG3 : Hid (GathJ w12 w.heap.size (.slice none 0 tc) [] ∧ GathF w12 w.heap.size (.slice (some ⟨g, 0, none⟩) Lf.length fc) Lf ∧ GathI w12 w.heap.size (.slice a4 0 c4) []) := ⟨hgt.keep b12, HG.out.1.keep b12, HG.out.2.keep b12⟩
                  clear b12 HG B11 hgt hs9 d0 d1
                  go_wp2_with fail
                  refine wp_region_lat (by kernel_rfl) (by kernel_rfl) ?_
                  have hne := Lat.some w12
                  repeat (go_big_quiet_step (fail))
                  refine wpQuiet_nil ?_
                  rintro _ ⟨nq, rfl⟩
                  have B13 : Below w.heap.size w nq.w := B12.trans (nq.h.mono B12.size)
                  go_wp2_with fail
                  exact ⟨⟨k + 1, [], [], by omega, by go_num, HG3.out.2.2.keep nq.h, HG3.out.1.keep nq.h, HG3.out.2.1.keep nq.h, HWK2, hT2, hfew2, B13⟩, by simp [intOf]; omega⟩
                · go_wp2_with fail
                  refine (bsItems_same a4 _ c4 _ [] w11 hfr (hrow _) (hrow _)).mono ?_
                  rintro e w12 ⟨rfl, b12⟩
                  have B12 : Below w.heap.size w w12 := B11.trans (b12.mono B11.size)
                  have HG3 : Hid (GathJ w12 w.heap.size (.slice (some ⟨g2, 0, none⟩) 0 tc) [] ∧ GathF w12 w.heap.size (.slice (some ⟨g, 0, none⟩) Lf.length fc) Lf ∧ GathI w12 w.heap.size (.slice a4 0 c4) []) := ⟨hgt.keep b12, HG.out.1.keep b12, HG.out.2.keep b12⟩
                  clear b12 HG B11 hgt hs9 d0 d1
                  go_wp2_with fail
                  refine wp_region_lat (by kernel_rfl) (by kernel_rfl) ?_
                  have hne := Lat.some w12
                  repeat (go_big_quiet_step (fail))
                  refine wpQuiet_nil ?_
                  rintro _ ⟨nq, rfl⟩
                  have B13 : Below w.heap.size w nq.w := B12.trans (nq.h.mono B12.size)
                  go_wp2_with fail
                  exact ⟨⟨k + 1, [], [], by omega, by go_num, HG3.out.2.2.keep nq.h, HG3.out.1.keep nq.h, HG3.out.2.1.keep nq.h, HWK2, hT2, hfew2, B13⟩, by simp [intOf]; omega⟩
        · obtain ⟨rfl, rfl⟩ := HP.out.1 hp
          go_wp2_with fail
          exact ⟨⟨k + 1, lw, T, by omega, by go_num, hgw, hgt, hgf, HWK, by omega, hfew.mono (by omega), B6⟩, by simp [intOf]; omega⟩
      · have h2' : decide ((k : Int) < 40) = false := decide_eq_false (by omega)
        go_wp2_with fail
        go_ret
        exact ⟨rfl, B2⟩
    · have h1' : decide ((k : Int) < (Lf.length : Int)) = false := decide_eq_false (by omega)
      go_wp2_with fail
      go_ret
      exact ⟨rfl, B2⟩

end Go.Proofs.Ytpfhegengmlkmaa
