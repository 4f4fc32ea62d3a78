/- Texts of this claim, one behind the other. -/
import Derived.Test.YtpfhegengmlkmacGreatDoorItM
import Derived.Test.YtpfhegengmlkmacGreatDoorGath
import Derived.Test.YtpfhegengmlkmacGreatDoorBase
import Derived.Maps.AppendAt
import Derived.Deep.AppendLies
import Derived.Laws.OwnMore
import Derived.Test.YtpfhegengmlkmacGreatDoorChS
import Derived.Test.YtpfhegengmlkmacGreatDoorStrsM
import Derived.Test.YtpfhegengmlkmacGreatDoorSafe
import Derived.Test.YtpfhegengmlkmacGreatDoorItH
import Derived.Test.YtpfhegengmlkmacGreatDoorWinS
import Derived.Deep.RegionHeld3
import Derived.Test.YtpfhegengmlkmacGreatDoorItB
import Derived.Test.YtpfhegengmlkmacGreatDoorLat
import Derived.Test.YtpfhegengmlkmacGreatDoorMath3
import Derived.RangeFuncNested
import Derived.RangeFuncBound
import Derived.RangeFuncCalls
import Derived.RangeFuncLeaves
import Derived.Shelf.Abstract
import Derived.Shelf.RegionOpen
import Derived.OwnWalkIn
import Derived.TacticsInMore
import Derived.LoopNIn
import Derived.LoopIn
import Derived.OrdersHeld
import Derived.OrdersIn
import Derived.TacticsIn
import Derived.Test.YtpfhegengmlkmacGreatDoorWf
import Derived.Test.YtpfhegengmlkmacGreatDoorSpecAO
/- Slices of items that the call itself gathers by append; append of all of a slice of marks onto a literal of none. -/
namespace Go.Proofs.YtpfhegengmlkmacGreatDoor
open Go.RowKit Go.BigFrame

theorem mcells_cell1 : ∀ (l : List (ByteArray × Int)), ∀ u ∈ mcells l, u.oneCell' = true
  | [], u, h => by simp [mcells] at h
  | m :: r, u, h => by
    simp only [mcells, List.mem_cons] at h
    rcases h with rfl | rfl | h
    · rfl
    · rfl
    · exact mcells_cell1 r u h
theorem row_news {w : World} {b o : Nat} {l : List (ByteArray × Int)} (h : Row w (some ⟨b, o, none⟩) l) : ∀ j u, (mcells l)[j]? = some u → w.cell? ((⟨b, o, none⟩ : Addr).add j) = some u := by
  intro j u hj
  have hjl : j < (mcells l).length := (List.getElem?_eq_some_iff.1 hj).1
  rw [mcells_length] at hjl
  have e : (⟨b, o, none⟩ : Addr).add j = ⟨b, o + j, none⟩ := by unfold Addr.add; by_cases h : j = 0 <;> simp [h]
  rw [e]
  have hk : j / 2 < l.length := by omega
  obtain ⟨b', o', ha, _, c0, c1⟩ := h (j / 2) hk
  obtain ⟨rfl, rfl⟩ : b = b' ∧ o = o' := by simpa using ha
  have hm := mcells_at l (j / 2) hk
  rcases Nat.mod_two_eq_zero_or_one j with h2 | h2
  · have ej : j / 2 * 2 = j := by omega
    rw [ej] at hm c0
    rw [hj] at hm
    rw [c0]
    exact hm.1.symm
  · have ej : j / 2 * 2 + 1 = j := by omega
    have ej' : o + j / 2 * 2 + 1 = o + j := by omega
    rw [ej] at hm
    rw [ej'] at c1
    rw [hj] at hm
    rw [c1]
    exact hm.2.symm

/-- append of all the marks of a slice onto a literal of none. -/
theorem wpList_append_copy {ops : Array Oper} {rest : List Oper} {o : Oper} {a : Act} {w : World} {Q : Exit → Act → World → Prop} (hgd : o.guard = none) (s x : Operand)
    (ho : o.op = .call { callee := .builtin .append, args := #[s, x], argTypes := #[34, 34] }) (base e0 b off cap : Nat) (l : List (ByteArray × Int)) (hs : a.eval s = .slice (some ⟨e0, 0, none⟩) 0 0) (he : w.heap[e0]? = some (.cells #[] 144 (0, 0))) (hb : base ≤ e0)
    (hx : a.eval x = .slice (some ⟨b, off, none⟩) l.length cap) (hr : Row w (some ⟨b, off, none⟩) l) (hl0 : 0 < l.length) (hl : l.length ≤ 1048576)
    (h : ∀ g' cap' w', Gath w' base (.slice (some ⟨g', 0, none⟩) l.length cap') l → w.grownBy w' (some e0) → wpList Tryz.prog ops Q rest (a.put o.dst (.slice (some ⟨g', 0, none⟩) l.length cap')) w') : wpList Tryz.prog ops Q (o :: rest) a w := by
  obtain ⟨i0, hi, hz0, hz1, hz2⟩ := info_parts Tryz.infoM
  have hlt : e0 < w.heap.size := (Array.getElem?_eq_some_iff.1 he).1
  have hown : w.ownsRow base 144 2 (.slice (some ⟨e0, 0, none⟩) 0 0) 0 [] := ⟨rfl, .inr ⟨e0, 0, #[], rfl, hb, he, Nat.le_refl _, Nat.zero_le _, rfl, rfl⟩⟩
  refine wpList_append_lies w hgd s x 34 ho base 144 i0 (.agg #[.string .empty, .int .i64 0]) 2 24 Tryz.underlying34 hi hz0 hz1 hz2 rfl (by decide) _ _ _ hs hown ⟨b, off, none⟩ l.length cap (mcells l) hx (mcells_length l) (row_news hr) (mcells_cell1 l) hl0 (by unfold maxLen; omega) (by omega) (Nat.le_trans hb (Nat.le_of_lt hlt)) _ rfl ?_
  intro g' cap' w' h1 h2 _ _
  simp only [Nat.zero_add, List.nil_append] at h1 ⊢
  exact h g' cap' w' h1 h2

theorem gath_own {w : World} {B g cap : Nat} {l : List (ByteArray × Int)} (h : Gath w B (.slice (some ⟨g, 0, none⟩) l.length cap) l) : B ≤ g ∧ l.length ≤ cap ∧ Own w g l := by
  rcases h.form with ⟨hv, _⟩ | ⟨g', cap', hv, hB, ho⟩
  · simp at hv
  · obtain ⟨⟨rfl⟩, rfl⟩ : g = g' ∧ cap = cap' := by simpa using hv
    refine ⟨hB, ?_, ho⟩
    rcases h.2 with ⟨hv, _⟩ | ⟨g2, cap2, cur, hv, _, _, hn, _⟩
    · simp at hv
    · have : cap = cap2 := by simp at hv; exact hv.2
      omega

theorem Own.grown {w w' : World} {b : Nat} {row : Option Nat} {l : List (ByteArray × Int)} (h : Own w b l) (hg : w.grownBy w' row) (hne : some b ≠ row) : Own w' b l := by
  have hlt := h.lt
  obtain ⟨m, f, h, hf⟩ := h
  exact ⟨m, f, h.of_block (hg.block b hlt hne), hf⟩

/-- The cells of items whose marks lie in blocks of their own, two an item. -/
def icells : List (ItemL × Nat × Nat) → List Value
  | [] => []
  | p :: r => .int .i64 p.1.1 :: .slice (some ⟨p.2.1, 0, none⟩) p.1.2.length p.2.2 :: icells r
theorem icells_length : ∀ L, (icells L).length = L.length * 2
  | [] => rfl
  | p :: r => by simp [icells, icells_length r]; omega
theorem icells_append : ∀ L r, icells (L ++ r) = icells L ++ icells r
  | [], _ => rfl
  | p :: L, r => by simp [icells, icells_append L r]
theorem icells_at : ∀ (L : List (ItemL × Nat × Nat)) (k : Nat) (h : k < L.length), (icells L)[k * 2]? = some (.int .i64 L[k].1.1) ∧ (icells L)[k * 2 + 1]? = some (.slice (some ⟨L[k].2.1, 0, none⟩) L[k].1.2.length L[k].2.2)
  | p :: r, 0, _ => by simp [icells]
  | p :: r, k + 1, h => by
    have := icells_at r k (by simpa using h)
    have e0 : (k + 1) * 2 = k * 2 + 1 + 1 := by omega
    rw [e0]
    simp only [icells, List.getElem?_cons_succ, List.getElem_cons_succ]
    exact this

/-- The slice value 'v' holds the items 'l', in a block of the call's own from number 'B' on, their marks each in a block of its own from 'B' on; or it is nil, and there are none. -/
def GathI (w : World) (B : Nat) (v : Value) (l : List ItemL) : Prop :=
  ∃ L : List (ItemL × Nat × Nat), L.map (·.1) = l ∧ w.ownsRow B 44 2 v L.length (icells L) ∧ (∀ p ∈ L, p.1.2.length ≤ p.2.2 ∧ Own w p.2.1 p.1.2 ∧ B ≤ p.2.1) ∧ L.Pairwise fun p q => p.2.1 ≠ q.2.1

theorem gathI_none (w : World) (B : Nat) : GathI w B (.slice none 0 0) [] := ⟨[], rfl, World.ownsRow_nil _ _ _ _, by simp, List.Pairwise.nil⟩

/-- A row of items is no row of marks. -/
theorem items_no_marks {w : World} {B n b : Nat} {v : Value} {xs : List Value} {l : List (ByteArray × Int)} (h : w.ownsRow B 44 2 v n xs) (ho : Own w b l) : some b ≠ v.ownBlock := by
  intro e
  obtain ⟨m, f, ⟨cs, h1, _⟩, _⟩ := ho
  rcases h.2 with ⟨rfl, _⟩ | ⟨g, cap, cur, rfl, _, hh, _⟩
  · simp [Value.ownBlock] at e
  · obtain rfl : b = g := by simpa [Value.ownBlock] using e
    rw [h1] at hh
    simp at hh

theorem GathI.len {w : World} {B : Nat} {v : Value} {l : List ItemL} (h : GathI w B v l) : ∃ a cap, v = .slice a l.length cap ∧ l.length ≤ cap := by
  obtain ⟨L, rfl, ho, _⟩ := h
  rcases ho.2 with ⟨rfl, h0⟩ | ⟨g, cap, cur, rfl, _, _, hn, _⟩
  · exact ⟨_, 0, by rw [List.length_map, h0], by rw [List.length_map, h0]; exact Nat.le_refl _⟩
  · exact ⟨_, cap, by rw [List.length_map], by rw [List.length_map]; exact hn⟩

theorem GathI.keep {w w' : World} {B : Nat} {v : Value} {l : List ItemL} (h : GathI w B v l) (hb : Below w.heap.size w w') : GathI w' B v l := by
  obtain ⟨L, e, ⟨hl, ho⟩, hm, hd⟩ := h
  refine ⟨L, e, ⟨hl, ?_⟩, fun p hp => ⟨(hm p hp).1, (hm p hp).2.1.below hb, (hm p hp).2.2⟩, hd⟩
  rcases ho with h | ⟨g, cap, cur, hv, hg, hh, r⟩
  · exact .inl h
  · refine .inr ⟨g, cap, cur, hv, hg, ?_, r⟩
    rw [hb.block g (Array.getElem?_eq_some_iff.1 hh).1]
    exact hh

theorem GathI.lower {w : World} {B B' : Nat} {v : Value} {l : List ItemL} (h : GathI w B v l) (hB : B' ≤ B) : GathI w B' v l := by
  obtain ⟨L, e, ⟨hl, ho⟩, hm, hd⟩ := h
  refine ⟨L, e, ⟨hl, ?_⟩, fun p hp => ⟨(hm p hp).1, (hm p hp).2.1, Nat.le_trans hB (hm p hp).2.2⟩, hd⟩
  rcases ho with h | ⟨g, cap, cur, hv, hg, r⟩
  · exact .inl h
  · exact .inr ⟨g, cap, cur, hv, Nat.le_trans hB hg, r⟩

/-- An item was appended: its marks lie in block 'gm', which is none of the others. -/
theorem GathI.snoc {w w' : World} {B gm c : Nat} {v v' : Value} {L : List (ItemL × Nat × Nat)} {x : Int} {m : List (ByteArray × Int)}
    (ho : w.ownsRow B 44 2 v L.length (icells L)) (hm : ∀ p ∈ L, p.1.2.length ≤ p.2.2 ∧ Own w p.2.1 p.1.2 ∧ B ≤ p.2.1) (hd : L.Pairwise fun p q => p.2.1 ≠ q.2.1)
    (hg : Own w gm m) (hB : B ≤ gm) (hc : m.length ≤ c) (hn : ∀ p ∈ L, p.2.1 ≠ gm)
    (h' : w'.ownsRow B 44 2 v' (L.length + 1) (icells L ++ [.int .i64 x, .slice (some ⟨gm, 0, none⟩) m.length c])) (hgr : w.grownBy w' v.ownBlock) : GathI w' B v' (L.map (·.1) ++ [(x, m)]) := by
  refine ⟨L ++ [((x, m), gm, c)], by simp, ?_, fun p hp => ?_, ?_⟩
  · rw [icells_append, List.length_append]
    exact h'
  · rcases List.mem_append.1 hp with hp | hp
    · obtain ⟨h1, h2, h3⟩ := hm p hp
      exact ⟨h1, h2.grown hgr (items_no_marks ho h2), h3⟩
    · obtain rfl : p = ((x, m), gm, c) := by simpa using hp
      exact ⟨hc, hg.grown hgr (items_no_marks ho hg), hB⟩
  · rw [List.pairwise_append]
    refine ⟨hd, List.pairwise_singleton _ _, fun p hp q hq => ?_⟩
    obtain rfl : q = ((x, m), gm, c) := by simpa using hq
    exact hn p hp

theorem GathI.grown {W w w' : World} {B : Nat} {v : Value} {n : Nat} {xs : List Value} (h : w.ownsRow B 44 2 v n xs) (hb : Below B W w) (hB : B ≤ w.heap.size) (hg : w.grownBy w' v.ownBlock) : Below B W w' :=
  hb.grown hg hB (fun k e => by
    rcases h.2 with ⟨rfl, _⟩ | ⟨g, cap, cur, rfl, hle, _⟩
    · cases e
    · simp [Value.ownBlock] at e; omega)

/-- The items 'l' lie at 'a', in blocks of the call's own from number 'lo' on and ahead of 'hi'; or there are none. -/
def SafeI (w : World) (lo hi : Nat) (a : Option Addr) (l : List ItemL) : Prop :=
  l = [] ∨ ∃ g, a = some ⟨g, 0, none⟩ ∧ lo ≤ g ∧ g < hi ∧ PartI w lo hi g l l.length

theorem SafeI.row {w : World} {lo hi : Nat} {a : Option Addr} {l : List ItemL} (h : SafeI w lo hi a l) : RowI w a l := by
  rcases h with rfl | ⟨g, rfl, _, _, hp⟩
  · exact fun k hk => absurd hk (Nat.not_lt_zero k)
  · exact hp.row
theorem SafeI.below {w w' : World} {lo hi : Nat} {a : Option Addr} {l : List ItemL} (h : SafeI w lo hi a l) (hb : Below w.heap.size w w') : SafeI w' lo hi a l := by
  rcases h with rfl | ⟨g, rfl, h1, h2, hp⟩
  · exact .inl rfl
  · exact .inr ⟨g, rfl, h1, h2, hp.below hb⟩
theorem PartI.span {w w' : World} {lo hi lo' hi' g k : Nat} {l : List ItemL} (h : PartI w lo hi g l k) (h1 : lo ≤ g) (h2 : g < hi) (hs : Span lo' hi' w w') (hd : hi ≤ lo' ∨ hi' ≤ lo) : PartI w' lo hi g l k := by
  have hlt := h.lt
  obtain ⟨G, C, m, f, h, hm, hf, hp⟩ := h
  refine ⟨G, C, m, f, h.of_block (hs.block g hlt (by omega)), hm, fun j hj hk => ?_, hp⟩
  obtain ⟨e1, e2, e3, e4, e5, e6, e7⟩ := hf j hj hk
  have hl4 := e4.lt
  obtain ⟨m', f', h', hf'⟩ := e4
  exact ⟨e1, e2, e3, ⟨m', f', h'.of_block (hs.block (G j) hl4 (by omega)), hf'⟩, e5, e6, e7⟩
theorem SafeI.span {w w' : World} {lo hi lo' hi' : Nat} {a : Option Addr} {l : List ItemL} (h : SafeI w lo hi a l) (hs : Span lo' hi' w w') (hd : hi ≤ lo' ∨ hi' ≤ lo) : SafeI w' lo hi a l := by
  rcases h with rfl | ⟨g, rfl, h1, h2, hp⟩
  · exact .inl rfl
  · exact .inr ⟨g, rfl, h1, h2, hp.span h1 h2 hs hd⟩

theorem GathI.safe {w : World} {B : Nat} {v : Value} {l : List ItemL} (h : GathI w B v l) : ∃ a cap, v = .slice a l.length cap ∧ l.length ≤ cap ∧ SafeI w B w.heap.size a l := by
  obtain ⟨L, rfl, ho, hm, hd⟩ := h
  have hno : ∀ p ∈ L, some p.2.1 ≠ v.ownBlock := fun p hp => items_no_marks ho (hm p hp).2.1
  rcases ho.2 with ⟨rfl, h0⟩ | ⟨g, cap, cur, rfl, hBg, hh, hn, hcm, hcs, htk⟩
  · obtain rfl : L = [] := List.length_eq_zero_iff.1 h0
    exact ⟨_, _, rfl, Nat.le_refl _, .inl rfl⟩
  · have hgl : g < w.heap.size := (Array.getElem?_eq_some_iff.1 hh).1
    refine ⟨_, cap, by rw [List.length_map], by rw [List.length_map]; exact hn, .inr ⟨g, rfl, hBg, hgl, fun j => ((L[j]?).map (·.2.1)).getD 0, fun j => ((L[j]?).map (·.2.2)).getD 0, cap * 2, fun i => (cur[i]?).getD undef, ⟨cur, hh, hcs, fun i hi => ?_⟩, by rw [List.length_map]; omega, fun j hj _ => ?_, fun i j hi hj hne => ?_⟩⟩
    · have hi' : i < cur.size := by omega
      simp [Array.getElem?_eq_getElem hi']
    · rw [List.length_map] at hj
      have hL : L[j]? = some L[j] := List.getElem?_eq_getElem hj
      have hp := hm _ (List.getElem_mem hj)
      have h2 := icells_at L j hj
      rw [← htk] at h2
      rw [List.getElem?_take_of_lt (by omega), List.getElem?_take_of_lt (by omega)] at h2
      simp only [Array.getElem?_toList] at h2
      simp only [h2.1, h2.2, hL, List.getElem_map, Option.map_some, Option.getD_some]
      refine ⟨trivial, trivial, hp.1, hp.2.1, hp.2.2, hp.2.1.lt, fun e => ?_⟩
      exact hno _ (List.getElem_mem hj) (by rw [e]; rfl)
    · rw [List.length_map] at hi hj
      have hLi : L[i]? = some L[i] := List.getElem?_eq_getElem hi
      have hLj : L[j]? = some L[j] := List.getElem?_eq_getElem hj
      simp only [hLi, hLj, Option.map_some, Option.getD_some]
      rw [List.pairwise_iff_getElem] at hd
      rcases Nat.lt_or_gt_of_ne hne with h | h
      · exact hd i j hi hj h
      · exact Ne.symm (hd j i hj hi h)

/-- Items of no kind but these. -/
def Small1 (l : List ItemL) : Prop := l.length ≤ 1048576 ∧ ∀ j, (h : j < l.length) → l[j].2.length ≤ 1048576

theorem markSafeI_any (a : Option Addr) (cap lo hi : Nat) (l : List ItemL) (k : Int) (w : World) (hn : Small1 l) (hk0 : 0 ≤ k) (hk1 : k + (l.length : Int) + 2 * (lens l : Int) ≤ 10000000) (hs : SafeI w lo hi a l) :
    Calls Tryz.prog 103 #[.slice a l.length cap, .int .i64 k] w fun e w' => e = .returned (.int .i64 (k + (l.length : Int) + 2 * (lens l : Int))) ∧ SafeI w' lo hi a (markedI k l) ∧ Span lo hi w w' := by
  rcases hs with rfl | ⟨g, rfl, h1, h2, hp⟩
  · exact (markItemS_none a cap k w).mono fun e w' ⟨he, hw⟩ => ⟨by rw [he]; simp [lens], .inl rfl, by rw [hw]; exact Span.refl _ _ _⟩
  · exact (markItemS_any g cap lo hi l k w hn.1 h1 h2 hk0 hk1 hn.2 hp).mono fun e w' ⟨he, hp', hb⟩ => ⟨he, .inr ⟨g, rfl, h1, h2, hp'⟩, hb⟩


/-- append of one item onto items that the call gathers. The marks of the item lie in a block that is newer than all that was gathered. -/
theorem wp_append_item {o : Oper} {a : Act} {w : World} {K : Act → World → Prop} {Q : Exit → Act → World → Prop} (s x : Operand)
    (ho : o.op = .call { callee := .builtin .append, args := #[s, x], argTypes := #[78, 78] }) (w0 : World) (base : Nat) (v : Value) (l : List ItemL) (hs : a.eval s = v) (hg : GathI w0 base v l) (hb : Below w0.heap.size w0 w) (hbase : base ≤ w0.heap.size)
    (ad : Nat) (xv : Int) (m : List (ByteArray × Int)) (gm c : Nat) (hx : a.eval x = .slice (some ⟨ad, 0, none⟩) 1 1) (c0 : w.cell? ⟨ad, 0, none⟩ = some (.int .i64 xv)) (c1 : w.cell? ⟨ad, 1, none⟩ = some (.slice (some ⟨gm, 0, none⟩) m.length c))
    (hm : Own w gm m) (hgm : w0.heap.size ≤ gm) (hc : m.length ≤ c) (hl : l.length ≤ 1048576)
    (h : ∀ v' w', GathI w' base v' (l ++ [(xv, m)]) → Below base w w' → K (a.put o.dst v') w') : o.wp Tryz.prog a w K Q := by
  obtain ⟨i0, hi, hz0, hz1, hz2⟩ := info_parts Tryz.infoI
  obtain ⟨L, rfl, hown, hmk, hd⟩ := hg
  have hown' : w.ownsRow base 44 2 v L.length (icells L) := by
    obtain ⟨hl, ho⟩ := hown
    refine ⟨hl, ?_⟩
    rcases ho with h | ⟨g, cap, cur, hv, hg, hh, r⟩
    · exact .inl h
    · refine .inr ⟨g, cap, cur, hv, hg, ?_, r⟩
      rw [hb.block g (Array.getElem?_eq_some_iff.1 hh).1]
      exact hh
  have hmk' : ∀ p ∈ L, p.1.2.length ≤ p.2.2 ∧ Own w p.2.1 p.1.2 ∧ base ≤ p.2.1 := fun p hp => ⟨(hmk p hp).1, (hmk p hp).2.1.below hb, (hmk p hp).2.2⟩
  have hnew : ∀ p ∈ L, p.2.1 ≠ gm := fun p hp => by have := (hmk p hp).2.1.lt; omega
  have hz := hb.size
  rw [List.length_map] at hl
  obtain ⟨g, cap, w', hr, h2, h3, _, _⟩ := run_append_lies (P := Tryz.prog) w 78 o.type base 44 i0 (.agg #[.int .i64 0, .slice none 0 0]) 2 32 Tryz.underlying78 hi hz0 hz1 hz2 rfl (by decide) _ _ _ hown' ⟨ad, 0, none⟩ 1 1 [.int .i64 xv, .slice (some ⟨gm, 0, none⟩) m.length c] rfl (by
      intro j u hj
      match j, hj with
      | 0, hj => simp at hj; subst hj; exact c0
      | 1, hj => simp at hj; subst hj; exact c1) (by simp [Value.oneCell']) (by decide) (by unfold maxLen; omega) (by omega) (by omega) _ rfl
  unfold Oper.wp execOp
  simp only [ho, resolve, invoke, builtin, Sem.run_bind, Sem.run_pure, Result.andThen_ok, List.map_toArray, List.map_cons, List.map_nil, hs, hx, hr]
  exact h _ w' (GathI.snoc hown' hmk' hd hm (Nat.le_trans hbase hgm) hc hnew h2 h3) (GathI.grown hown' (Below.refl _ _) (Nat.le_trans hbase hz) h3)

theorem wpList_append_item {ops : Array Oper} {rest : List Oper} {o : Oper} {a : Act} {w : World} {Q : Exit → Act → World → Prop} (hgd : o.guard = none) (s x : Operand)
    (ho : o.op = .call { callee := .builtin .append, args := #[s, x], argTypes := #[78, 78] }) (w0 : World) (base : Nat) (v : Value) (l : List ItemL) (hs : a.eval s = v) (hg : GathI w0 base v l) (hb : Below w0.heap.size w0 w) (hbase : base ≤ w0.heap.size)
    (ad : Nat) (xv : Int) (m : List (ByteArray × Int)) (gm c : Nat) (hx : a.eval x = .slice (some ⟨ad, 0, none⟩) 1 1) (c0 : w.cell? ⟨ad, 0, none⟩ = some (.int .i64 xv)) (c1 : w.cell? ⟨ad, 1, none⟩ = some (.slice (some ⟨gm, 0, none⟩) m.length c))
    (hm : Own w gm m) (hgm : w0.heap.size ≤ gm) (hc : m.length ≤ c) (hl : l.length ≤ 1048576)
    (h : ∀ v' w', GathI w' base v' (l ++ [(xv, m)]) → Below base w w' → wpList Tryz.prog ops Q rest (a.put o.dst v') w') : wpList Tryz.prog ops Q (o :: rest) a w :=
  wpList_plain hgd fun _ hK => wp_append_item s x ho w0 base v l hs hg hb hbase ad xv m gm c hx c0 c1 hm hgm hc hl fun v' w' h1 h2 => hK _ _ (h v' w' h1 h2)

end Go.Proofs.YtpfhegengmlkmacGreatDoor
/- Rows of the call's own, of whatever type: what keeps them. -/
namespace Go.Proofs.YtpfhegengmlkmacGreatDoor
open Go.RowKit Go.BigFrame

theorem own_keep {w w' : World} {B e size n : Nat} {v : Value} {xs : List Value} (h : w.ownsRow B e size v n xs) (hb : Below w.heap.size w w') : w'.ownsRow B e size v n xs := by
  obtain ⟨hl, h | ⟨g, cap, cur, hv, hgB, hh, r⟩⟩ := h
  · exact ⟨hl, .inl h⟩
  · exact ⟨hl, .inr ⟨g, cap, cur, hv, hgB, (hb.block g (Array.getElem?_eq_some_iff.1 hh).1).trans hh, r⟩⟩
theorem own_lower {w : World} {B B' e size n : Nat} {v : Value} {xs : List Value} (h : w.ownsRow B e size v n xs) (hB : B' ≤ B) : w.ownsRow B' e size v n xs := by
  obtain ⟨hl, h | ⟨g, cap, cur, hv, hgB, r⟩⟩ := h
  · exact ⟨hl, .inl h⟩
  · exact ⟨hl, .inr ⟨g, cap, cur, hv, Nat.le_trans hB hgB, r⟩⟩
/-- Two rows of unlike types lie in unlike blocks. -/
theorem own_types {w : World} {B B' e e' size size' n n' : Nat} {v v' : Value} {xs xs' : List Value} (h : w.ownsRow B e size v n xs) (h' : w.ownsRow B' e' size' v' n' xs') (hne : e ≠ e') : v.ownBlock = none ∨ v.ownBlock ≠ v'.ownBlock := by
  rcases h.2 with ⟨rfl, _⟩ | ⟨g, cap, cur, rfl, _, hh, _⟩
  · exact .inl rfl
  · rcases h'.2 with ⟨rfl, _⟩ | ⟨g', cap', cur', rfl, _, hh', _⟩
    · exact .inr (by simp [Value.ownBlock])
    · refine .inr fun q => ?_
      obtain rfl : g = g' := by simpa [Value.ownBlock] using q
      rw [hh] at hh'
      simp at hh'
      exact hne hh'.2
theorem own_from {w : World} {B e size n : Nat} {v : Value} {xs : List Value} (h : w.ownsRow B e size v n xs) : ∀ k, v.ownBlock = some k → B ≤ k := fun k q => (h.lt k q).1
theorem own_below {W w w' : World} {B e size n : Nat} {v : Value} {xs : List Value} (h : w.ownsRow B e size v n xs) (hb : Below B W w) (hB : B ≤ w.heap.size) (hg : w.grownBy w' v.ownBlock) : Below B W w' := hb.grown hg hB (own_from h)
theorem grown_below {w w' : World} (hb : Below w.heap.size w w') (row : Option Nat) : w.grownBy w' row := ⟨hb.os, hb.tape, hb.output, hb.size, fun k hk _ => hb.block k hk⟩
/-- First one row, then the row that it has become. -/
theorem grown_then {w w1 w2 : World} {r r1 : Option Nat} (h : w.grownBy w1 r) (k : w1.grownBy w2 r1) (hr : r1 = r ∨ ∃ g, r1 = some g ∧ w.heap.size ≤ g) : w.grownBy w2 r :=
  ⟨k.os.trans h.os, k.tape.trans h.tape, k.output.trans h.output, Nat.le_trans h.size k.size, fun i hi hne => (k.block i (Nat.lt_of_lt_of_le hi h.size) (by
    rcases hr with e | ⟨g, e, hle⟩
    · rw [e]; exact hne
    · rw [e]; intro q; cases q; omega)).trans (h.block i hi hne)⟩
theorem grown_cell {w w' : World} {r : Option Nat} (hg : w.grownBy w' r) {b o : Nat} {v : Value} (hne : some b ≠ r) (h : w.cell? ⟨b, o, none⟩ = some v) : w'.cell? ⟨b, o, none⟩ = some v := hg.cell h hne

/-- The slice value 'v' holds the numbers 'l', in a row of the call's own from block 'B' on. -/
def GathN (w : World) (B : Nat) (v : Value) (l : List Int) : Prop := w.ownsRow B 3 1 v l.length (l.map fun x => .int .i64 x)
theorem GathN.shape {w : World} {B : Nat} {v : Value} {l : List Int} (h : GathN w B v l) (h0 : 0 < l.length) : ∃ g cap, v = .slice (some ⟨g, 0, none⟩) l.length cap ∧ B ≤ g ∧ g < w.heap.size ∧ l.length ≤ cap ∧ ∀ j, (hj : j < l.length) → w.cell? ⟨g, j, none⟩ = some (.int .i64 l[j]) := by
  rcases h.2 with ⟨rfl, e⟩ | ⟨g, cap, cur, rfl, hB, hh, hn, r⟩
  · omega
  · refine ⟨g, cap, rfl, hB, (Array.getElem?_eq_some_iff.1 hh).1, hn, fun j hj => ?_⟩
    rw [World.ownsRow.cellAt h j (by omega)]
    simp [hj]

/-- Lists of numbers that the call itself gathers, each in a row of its own: the lists, their blocks and their room. -/
def GathU (w : World) (B : Nat) (v : Value) (L : List (List Int × Nat × Nat)) : Prop := w.ownsRow B 37 1 v L.length (L.map fun p => .slice (some ⟨p.2.1, 0, none⟩) p.1.length p.2.2) ∧ ∀ p ∈ L, GathN w B (.slice (some ⟨p.2.1, 0, none⟩) p.1.length p.2.2) p.1
theorem gathU_none (w : World) (B : Nat) : GathU w B (.slice none 0 0) [] := ⟨World.ownsRow_nil _ _ _ _, by simp⟩
theorem GathU.keep {w w' : World} {B : Nat} {v : Value} {L : List (List Int × Nat × Nat)} (h : GathU w B v L) (hb : Below w.heap.size w w') : GathU w' B v L := ⟨own_keep h.1 hb, fun p hp => own_keep (h.2 p hp) hb⟩
theorem GathU.snoc {w w' : World} {B g c : Nat} {v v' : Value} {L : List (List Int × Nat × Nat)} {l : List Int} (h : GathU w B v L) (hl : GathN w B (.slice (some ⟨g, 0, none⟩) l.length c) l) (hne : 3 ≠ 37)
    (h' : w'.ownsRow B 37 1 v' (L.length + 1) ((L.map fun p => .slice (some ⟨p.2.1, 0, none⟩) p.1.length p.2.2) ++ [.slice (some ⟨g, 0, none⟩) l.length c])) (hg : w.grownBy w' v.ownBlock) : GathU w' B v' (L ++ [(l, g, c)]) := by
  refine ⟨?_, fun p hp => ?_⟩
  · rw [List.length_append, List.map_append]
    exact h'
  · rcases List.mem_append.1 hp with hp | hp
    · exact World.ownsRow.kept (h.2 p hp) hg (own_types (h.2 p hp) h.1 hne)
    · obtain rfl : p = (l, g, c) := by simpa using hp
      exact World.ownsRow.kept hl hg (own_types hl h.1 hne)

end Go.Proofs.YtpfhegengmlkmacGreatDoor
/- Windows that the call itself gathers, each in blocks of its own. -/
namespace Go.Proofs.YtpfhegengmlkmacGreatDoor
open Go.RowKit Go.BigFrame

theorem span_grown {w w' : World} {k : Nat} (h : w.grownBy w' (some k)) : Span k (k + 1) w w' := ⟨h.os, h.tape, h.output, h.size, fun i hi hn => h.block i hi (by intro e; cases e; omega)⟩
theorem SafeI.grown {w w' : World} {lo hi : Nat} {a : Option Addr} {l : List ItemL} {r : Option Nat} (h : SafeI w lo hi a l) (hg : w.grownBy w' r) (hd : ∀ k, r = some k → k < lo ∨ hi ≤ k) : SafeI w' lo hi a l := by
  cases r with
  | none => exact h.span (lo' := 0) (hi' := 0) ⟨hg.os, hg.tape, hg.output, hg.size, fun i hi _ => hg.block i hi (by simp)⟩ (by omega)
  | some k => exact h.span (span_grown hg) (by have := hd k rfl; omega)

/-- A window that was gathered: its items, its slice, and the blocks between which it lies. -/
structure WinY where
  l : List ItemL
  v : Value
  lo : Nat
  hi : Nat
/-- It lies so in w. -/
def WinY.In (w : World) (B : Nat) (p : WinY) : Prop := (∃ a c, p.v = .slice a p.l.length c ∧ p.l.length ≤ c ∧ SafeI w p.lo p.hi a p.l) ∧ B ≤ p.lo ∧ p.lo ≤ p.hi ∧ p.hi ≤ w.heap.size
theorem WinY.In.below {w w' : World} {B : Nat} {p : WinY} (h : p.In w B) (hb : Below w.heap.size w w') : p.In w' B := by
  obtain ⟨⟨a, c, h1, h2, h3⟩, h4, h5, h6⟩ := h
  exact ⟨⟨a, c, h1, h2, h3.below hb⟩, h4, h5, Nat.le_trans h6 hb.size⟩
theorem WinY.In.grown {w w' : World} {B : Nat} {p : WinY} {r : Option Nat} (h : p.In w B) (hg : w.grownBy w' r) (hd : ∀ k, r = some k → k < p.lo ∨ p.hi ≤ k) : p.In w' B := by
  obtain ⟨⟨a, c, h1, h2, h3⟩, h4, h5, h6⟩ := h
  exact ⟨⟨a, c, h1, h2, h3.grown hg hd⟩, h4, h5, Nat.le_trans h6 hg.size⟩
theorem GathI.winY {w : World} {B : Nat} {v : Value} {l : List ItemL} (h : GathI w B v l) (hB : B ≤ w.heap.size) : (WinY.mk l v B w.heap.size).In w B := by
  obtain ⟨a, c, h1, h2, h3⟩ := h.safe
  exact ⟨⟨a, c, h1, h2, h3⟩, Nat.le_refl _, hB, Nat.le_refl _⟩

/-- The slice value 'v' holds the windows of L, in a row of the call's own that lies in none of their blocks. -/
structure GathY (w : World) (B : Nat) (v : Value) (L : List WinY) : Prop where
  own : w.ownsRow B 78 1 v L.length (L.map (·.v))
  at_ : ∀ p ∈ L, p.In w B
  far : ∀ p ∈ L, ∀ k, v.ownBlock = some k → k < p.lo ∨ p.hi ≤ k
  dis : L.Pairwise fun p q => p.hi ≤ q.lo
theorem gathY_none (w : World) (B : Nat) : GathY w B (.slice none 0 0) [] := ⟨World.ownsRow_nil _ _ _ _, by simp, by simp, List.Pairwise.nil⟩
theorem GathY.keep {w w' : World} {B : Nat} {v : Value} {L : List WinY} (h : GathY w B v L) (hb : Below w.heap.size w w') : GathY w' B v L := ⟨own_keep h.own hb, fun p hp => (h.at_ p hp).below hb, h.far, h.dis⟩
theorem GathY.grown {w w' : World} {B : Nat} {v : Value} {L : List WinY} {r : Option Nat} (h : GathY w B v L) (hg : w.grownBy w' r) (hv : v.ownBlock = none ∨ v.ownBlock ≠ r) (hd : ∀ p ∈ L, ∀ k, r = some k → k < p.lo ∨ p.hi ≤ k) : GathY w' B v L :=
  ⟨World.ownsRow.kept h.own hg hv, fun p hp => (h.at_ p hp).grown hg (hd p hp), h.far, h.dis⟩
theorem own_farY {w : World} {B e size n q : Nat} {v : Value} {xs : List Value} (h : w.ownsRow B e size v n xs) (hq : q < B) (i : Nat) (z : Value) : (w.setCell ⟨q, i, none⟩ z).ownsRow B e size v n xs := by
  obtain ⟨hl, h | ⟨g, cap, cur, hv, hgB, hh, r⟩⟩ := h
  · exact ⟨hl, .inl h⟩
  · exact ⟨hl, .inr ⟨g, cap, cur, hv, hgB, (Below.heap_setCell _ _ _ _ (by simp only; omega)).trans hh, r⟩⟩
theorem GathY.set {w : World} {B q : Nat} {v : Value} {L : List WinY} (h : GathY w B v L) (hq : q < B) (i : Nat) (z : Value) : GathY (w.setCell ⟨q, i, none⟩ z) B v L := by
  refine ⟨own_farY h.own hq i z, fun p hp => ?_, h.far, h.dis⟩
  obtain ⟨⟨a, c, h1, h2, h3⟩, h4, h5, h6⟩ := h.at_ p hp
  exact ⟨⟨a, c, h1, h2, h3.span ((Span.refl q (q + 1) w).setCell (Nat.le_refl _) (Nat.lt_succ_self _) i z) (by omega)⟩, h4, h5, by simpa using h6⟩
/-- One window more. -/
theorem GathY.snoc {w1 w2 : World} {B : Nat} {v v' : Value} {L : List WinY} {p : WinY} (h : GathY w1 B v L) (hw : ∀ q ∈ L, q.hi ≤ p.lo) (hp : p.In w1 B) (hpv : ∀ k, v.ownBlock = some k → k < p.lo ∨ p.hi ≤ k)
    (ho : w2.ownsRow B 78 1 v' (L.length + 1) ((L.map (·.v)) ++ [p.v])) (hg : w1.grownBy w2 v.ownBlock) (hloc : v'.ownBlock = v.ownBlock ∨ v'.ownBlock = some w1.heap.size) : GathY w2 B v' (L ++ [p]) := by
  have hz : ∀ q ∈ L, q.hi ≤ w1.heap.size := fun q hq => (h.at_ q hq).2.2.2
  have hzp := hp.2.2.2
  refine ⟨by rw [List.length_append, List.map_append]; exact ho, fun q hq => ?_, fun q hq k hk => ?_, ?_⟩
  · rcases List.mem_append.1 hq with hq | hq
    · exact (h.at_ q hq).grown hg (h.far q hq)
    · obtain rfl : q = p := by simpa using hq
      exact hp.grown hg hpv
  · rcases List.mem_append.1 hq with hq | hq
    · rcases hloc with e | e
      · exact h.far q hq k (by rw [← e]; exact hk)
      · rw [e] at hk; cases hk; exact .inr (hz q hq)
    · obtain rfl : q = p := by simpa using hq
      rcases hloc with e | e
      · exact hpv k (by rw [← e]; exact hk)
      · rw [e] at hk; cases hk; exact .inr hzp
  · rw [List.pairwise_append]
    exact ⟨h.dis, List.pairwise_singleton _ _, fun q hq r hr => by obtain rfl : r = p := by simpa using hr
                                                                   exact hw q hq⟩
theorem GathY.row {w : World} {B : Nat} {v : Value} {L : List WinY} (h : GathY w B v L) : ∃ a cap, v = .slice a L.length cap ∧ L.length ≤ cap ∧ RowW w a (L.map (·.l)) := by
  rcases h.own.2 with ⟨rfl, h0⟩ | ⟨g, cap, cur, rfl, hB, hh, hn, _⟩
  · exact ⟨none, 0, by rw [h0], by omega, fun k hk => by rw [List.length_map] at hk; omega⟩
  · have hlt : g < w.heap.size := (Array.getElem?_eq_some_iff.1 hh).1
    refine ⟨_, cap, rfl, hn, fun k hk => ⟨g, 0, rfl, hlt, ?_⟩⟩
    rw [List.length_map] at hk
    obtain ⟨⟨a, c, e, hc, hs⟩, _⟩ := h.at_ L[k] (List.getElem_mem hk)
    refine ⟨a, c, ?_, by simpa using hc, by simpa using hs.row⟩
    rw [Nat.zero_add, World.ownsRow.cellAt h.own _ (by omega)]
    simp [hk, e]

end Go.Proofs.YtpfhegengmlkmacGreatDoor
/- A slice of texts that the call itself gathers by append. -/
namespace Go.Proofs.YtpfhegengmlkmacGreatDoor
open Go.RowKit Go.BigFrame

/-- The slice value 'v' holds the texts 'l', in a block of the call's own, from number 'B' on; or it is nil, and there are none. -/
def GathS (w : World) (B : Nat) (v : Value) (l : List ByteArray) : Prop := w.ownsRow B 9 1 v l.length (l.map .string)

theorem gathS_none (w : World) (B : Nat) : GathS w B (.slice none 0 0) [] := World.ownsRow_nil _ _ _ _
theorem GathS.shape {w : World} {B : Nat} {v : Value} {l : List ByteArray} (h : GathS w B v l) : ∃ a cap, v = .slice a l.length cap ∧ RowS w a l := by
  rcases id h with ⟨hl, h1 | ⟨g, cap, cur, hv, hg, hh, r⟩⟩
  · refine ⟨_, _, by rw [h1.2]; exact h1.1, fun k hk => absurd hk (by omega)⟩
  · refine ⟨_, _, hv, fun k hk => ⟨g, 0, rfl, (Array.getElem?_eq_some_iff.1 hh).1, ?_⟩⟩
    subst hv
    have e := World.ownsRow.cellAt h k (by omega)
    rw [Nat.zero_add, e]
    simp [hk]
theorem GathS.keep {w w' : World} {B : Nat} {v : Value} {l : List ByteArray} (h : GathS w B v l) (hb : Below w.heap.size w w') : GathS w' B v l := by
  obtain ⟨hl, h | ⟨g, cap, cur, hv, hg, hh, r⟩⟩ := h
  · exact ⟨hl, .inl h⟩
  · exact ⟨hl, .inr ⟨g, cap, cur, hv, hg, (hb.block g (Array.getElem?_eq_some_iff.1 hh).1).trans hh, r⟩⟩
theorem GathS.but {w w' : World} {R B : Nat} {v : Value} {l : List ByteArray} (h : GathS w B v l) (hb : But R w w') (hR : R < B) : GathS w' B v l := by
  obtain ⟨hl, h | ⟨g, cap, cur, hv, hgB, hh, r⟩⟩ := h
  · exact ⟨hl, .inl h⟩
  · exact ⟨hl, .inr ⟨g, cap, cur, hv, hgB, (hb.block g (Array.getElem?_eq_some_iff.1 hh).1 (by omega)).trans hh, r⟩⟩
theorem GathS.lower {w : World} {B B' : Nat} {v : Value} {l : List ByteArray} (h : GathS w B v l) (hB : B' ≤ B) : GathS w B' v l := by
  obtain ⟨hl, h | ⟨g, cap, cur, hv, hg, r⟩⟩ := h
  · exact ⟨hl, .inl h⟩
  · exact ⟨hl, .inr ⟨g, cap, cur, hv, Nat.le_trans hB hg, r⟩⟩
theorem GathS.snoc {w : World} {B : Nat} {v : Value} {l : List ByteArray} {s : ByteArray} (h : w.ownsRow B 9 1 v (l.length + 1) (l.map .string ++ [.string s])) : GathS w B v (l ++ [s]) := by
  unfold GathS
  rw [List.length_append, List.map_append]
  exact h
theorem ownsRow_block {w : World} {B s n : Nat} {t : TypeId} {v : Value} {xs : List Value} (h : w.ownsRow B t s v n xs) : ∀ k, v.ownBlock = some k → B ≤ k := fun k e => by
  obtain ⟨_, h | ⟨g, cap, cur, rfl, hle, _⟩⟩ := h
  · rw [h.1] at e; cases e
  · simp [Value.ownBlock] at e; omega
theorem one_new (w : World) (x : Value) (t : TypeId) : ∀ j u, [x][j]? = some u → (w.alloc (.cells #[x] t)).cell? ((⟨w.heap.size, 0, none⟩ : Addr).add j) = some u := by
  intro j u hj
  match j, hj with
  | 0, hj => simp at hj; subst hj; simp [Addr.add, go_sem]
theorem Tryz.infoS : (Tryz.prog.info? 9).map (fun i => (i.zero, i.size, i.bytes)) = some (some (.string .empty), 1, 16) := by kernel_rfl

end Go.Proofs.YtpfhegengmlkmacGreatDoor
/- Texts of an answer: marked, and held against the marks. -/
namespace Go.Proofs.YtpfhegengmlkmacGreatDoor
open Go.RowKit Go.BigFrame

/-- The marks of texts. -/
def textsM (k : Int) (n : Nat) : List ByteArray := (List.range n).map fun (i : Nat) => mt (k + (i : Int))
theorem textsM_len (k : Int) (n : Nat) : (textsM k n).length = n := by simp [textsM]
theorem textsM_at (k : Int) (n j : Nat) (h : j < (textsM k n).length) : (textsM k n)[j] = mt (k + (j : Int)) := by simp [textsM]
/-- Block 'g' begins with the texts 'l'. -/
def StrB (w : World) (g : Nat) (l : List ByteArray) : Prop := ∃ m f, w.rowIs g 9 m f ∧ l.length ≤ m ∧ ∀ j, (h : j < l.length) → f j = .string l[j]
theorem StrB.cell {w : World} {g : Nat} {l : List ByteArray} (h : StrB w g l) {j : Nat} (hj : j < l.length) : w.cell? ⟨g, j, none⟩ = some (.string l[j]) := by
  obtain ⟨m, f, h, hm, hf⟩ := h
  rw [h.cell (by omega), hf j hj]
theorem StrB.frozen {w : World} {g : Nat} {l : List ByteArray} (h : StrB w g l) (j : Nat) : w.frozen? ⟨g, j, none⟩ = false := by
  obtain ⟨m, f, h, _⟩ := h
  exact h.frozen j
theorem StrB.lt {w : World} {g : Nat} {l : List ByteArray} (h : StrB w g l) : g < w.heap.size := by
  obtain ⟨m, f, h, _⟩ := h
  exact h.lt
theorem StrB.set {w : World} {g : Nat} {l : List ByteArray} (h : StrB w g l) (j : Nat) (x : ByteArray) : StrB (w.setCell ⟨g, j, none⟩ (.string x)) g (l.set j x) := by
  obtain ⟨m, f, h, hm, hf⟩ := h
  refine ⟨m, _, h.set _ _, by rw [List.length_set]; exact hm, fun i hi => ?_⟩
  rw [List.length_set] at hi
  by_cases e : i = j
  · subst e; simp
  · simp only [if_neg e]
    rw [hf i hi, List.getElem_set_ne (fun h => e h.symm)]
theorem StrB.below {w w' : World} {g : Nat} {l : List ByteArray} (h : StrB w g l) (hb : Below w.heap.size w w') : StrB w' g l := by
  have hlt := h.lt
  obtain ⟨m, f, h, hf⟩ := h
  exact ⟨m, f, h.of_block (hb.block g hlt), hf⟩
theorem StrB.span {w w' : World} {g lo hi : Nat} {l : List ByteArray} (h : StrB w g l) (hs : Span lo hi w w') (hd : g < lo ∨ hi ≤ g) : StrB w' g l := by
  have hlt := h.lt
  obtain ⟨m, f, h, hf⟩ := h
  exact ⟨m, f, h.of_block (hs.block g hlt hd), hf⟩
theorem StrB.row {w : World} {g : Nat} {l : List ByteArray} (h : StrB w g l) : RowS w (some ⟨g, 0, none⟩) l := fun k hk => ⟨g, 0, rfl, h.lt, by rw [Nat.zero_add]; exact h.cell hk⟩
theorem GathS.block {w : World} {B : Nat} {v : Value} {l : List ByteArray} (h : GathS w B v l) (h0 : 0 < l.length) : ∃ g c, v = .slice (some ⟨g, 0, none⟩) l.length c ∧ B ≤ g ∧ StrB w g l := by
  rcases h.2 with ⟨_, e⟩ | ⟨g, cap, cur, e, hB, hh, hn, hc, hs, ht⟩
  · omega
  · refine ⟨g, cap, e, hB, cap * 1, fun i => (cur[i]?).getD undef, ⟨cur, hh, hs, fun i hi => ?_⟩, by omega, fun k hk => ?_⟩
    · have hi' : i < cur.size := by omega
      simp [Array.getElem?_eq_getElem hi']
    · have h2 : (l.map Value.string)[k]? = some (.string l[k]) := by simp [hk]
      rw [← ht, List.getElem?_take_of_lt (by simp; omega)] at h2
      simp only [Array.getElem?_toList] at h2
      simp only [h2]
      rfl
/-- The first j texts marked. -/
def mixT (k : Int) (l : List ByteArray) (j : Nat) : List ByteArray := (textsM k j) ++ l.drop j
theorem mixT_len (k : Int) (l : List ByteArray) {j : Nat} (h : j ≤ l.length) : (mixT k l j).length = l.length := by simp [mixT, textsM]; omega
theorem mixT_step (k : Int) (l : List ByteArray) {j : Nat} (h : j < l.length) : (mixT k l j).set j (mt (k + (j : Int))) = mixT k l (j + 1) := by
  apply List.ext_getElem
  · rw [List.length_set, mixT_len k l (by omega), mixT_len k l (by omega)]
  · intro i h1 h2
    have hl : i < l.length := by rw [List.length_set, mixT_len k l (by omega)] at h1; exact h1
    rw [List.getElem_set]
    simp only [mixT, List.getElem_append, textsM_len]
    by_cases e : j = i
    · subst e
      simp [textsM]
    · simp only [if_neg e]
      by_cases e2 : i < j
      · simp only [e2, ↓reduceDIte, show i < j + 1 by omega]
        simp [textsM]
      · simp only [e2, ↓reduceDIte, show ¬ i < j + 1 by omega, List.getElem_drop]
        congr 1
        omega

set_option maxHeartbeats 800000 in
theorem markStrB_any (g cap : Nat) (l : List ByteArray) (k : Int) (w : World) (hn : l.length ≤ 1048576) (hk0 : 0 ≤ k) (hk1 : k ≤ 10000000) (ho : StrB w g l) :
    Calls Tryz.prog 30 #[.slice (some ⟨g, 0, none⟩) l.length cap, .int .i64 k] w fun e w' => e = .returned (.int .i64 (k + (l.length : Int))) ∧ StrB w' g (textsM k l.length) ∧ But g w w' := by
  go_enter Tryz.func30, Tryz.ntmps30
  go_wp2_with fail
  go_loopw [1, 5] (fun kk i wr => ∃ j : Nat, j ≤ l.length ∧ i = .int .i64 j ∧ kk = .int .i64 (k + (j : Int)) ∧ StrB wr g (mixT k l j) ∧ But g w wr) (fun _ i _ => l.length - (intOf i).toNat)
  case atStart => exact ⟨0, Nat.zero_le _, rfl, by simp, by simpa [mixT, textsM] using ho, But.refl _ _⟩
  case round =>
    obtain ⟨j, hj, rfl, rfl, hnb, hb⟩ := hrel
    by_cases hlt : j < l.length
    · have hjm : j < (mixT k l j).length := by rw [mixT_len k l (by omega)]; omega
      go_wp2_with (first | (go_at_call 66; refine (markText_any _ _ (by omega)).mono ?_; rintro e w1 ⟨rfl, hb1⟩; have hp1 := hnb.below hb1; have hv0 := hp1.cell hjm; have hz0 := hp1.frozen j; have hset := hp1.set j (mt (k + (j : Int)))))
      rw [mixT_step k l hlt] at hset
      exact ⟨⟨j + 1, by omega, by go_num, by congr 1; omega, hset, (hb.trans (But.of_below hb1)).setCell _ _⟩, by simp [intOf]; omega⟩
    · obtain rfl : j = l.length := by omega
      have he : mixT k l l.length = textsM k l.length := by simp [mixT]
      rw [he] at hnb
      go_wp2_with fail
      go_ret
      exact ⟨rfl, hnb, hb⟩

set_option maxHeartbeats 800000 in
theorem heldStringS_any (a : Option Addr) (cap n : Nat) (k : Int) (w : World) (hn : n ≤ 1048576) (hk0 : 0 ≤ k) (hk1 : k ≤ 10000000) (hr : RowS w a (textsM k n)) :
    Calls Tryz.prog 61 #[.slice a n cap, .int .i64 k] w fun e w' => e = .returned (.int .i64 (k + (n : Int))) ∧ Below w.heap.size w w' := by
  go_enter Tryz.func61, Tryz.ntmps61
  go_wp2_with fail
  go_loopw [1, 5] (fun kk i wr => ∃ j : Nat, j ≤ n ∧ i = .int .i64 j ∧ kk = .int .i64 (k + (j : Int)) ∧ Below w.heap.size w wr) (fun _ i _ => n - (intOf i).toNat)
  case atStart => exact ⟨0, Nat.zero_le _, rfl, by simp, Below.refl _ _⟩
  case round =>
    obtain ⟨j, hj, rfl, rfl, hb⟩ := hrel
    by_cases hlt : j < n
    · obtain ⟨b, o, rfl, hblt, c0⟩ := hr.below hb j (by rw [textsM_len]; exact hlt)
      rw [textsM_at] at c0
      have j0 : (0 : Int) ≤ (j : Int) := by omega
      have j1 : (j : Int) < (n : Int) := by omega
      go_wp2_with fail
      refine wp_region_lat (by kernel_rfl) (by kernel_rfl) ?_
      have hne := Lat.some wr
      have q0 : ∀ n : Lat wr, n.w.cell? ⟨b, o + j, none⟩ = some (.string (mt (k + (j : Int)))) := fun n => n.cell hblt c0
      repeat (go_big_quiet_step ((go_at_call 66; exact Calls.lat_of (markText_any _ _ (by omega)))))
      refine wpQuiet_nil ?_
      rintro _ ⟨nq, rfl⟩
      go_wp2_with fail
      exact ⟨⟨j + 1, by omega, by go_num, by congr 1; omega, hb.trans (nq.h.mono hb.size)⟩, by simp [intOf]; omega⟩
    · obtain rfl : j = n := by omega
      go_wp2_with fail
      go_ret
      exact ⟨rfl, hb⟩

end Go.Proofs.YtpfhegengmlkmacGreatDoor
/- Windows marked: walks of szItemSS with sums, markItemSS, markIntS. -/
namespace Go.Proofs.YtpfhegengmlkmacGreatDoor
open Go.RowKit Go.BigFrame

/-- How many items and marks there are. -/
def lensW : List (List ItemL) → Nat
  | [] => 0
  | l :: r => l.length + lens l + lensW r
theorem lensW_append (a b : List (List ItemL)) : lensW (a ++ b) = lensW a + lensW b := by
  induction a with
  | nil => simp [lensW]
  | cons l r ih => simp [lensW, ih]; omega
theorem lensW_take {ws : List (List ItemL)} {k : Nat} (h : k < ws.length) : lensW (ws.take (k + 1)) = lensW (ws.take k) + (ws[k].length + lens ws[k]) := by
  rw [List.take_succ_eq_append_getElem h, lensW_append]
  simp [lensW]

theorem lensW_take_le (ws : List (List ItemL)) (k : Nat) : lensW (ws.take k) ≤ lensW ws := by
  have h := lensW_append (ws.take k) (ws.drop k)
  rw [List.take_append_drop] at h
  omega

set_option maxHeartbeats 800000 in
theorem szItemSS_w (a : Option Addr) (cap : Nat) (ws : List (List ItemL)) (left : Int) (w : World) (hr : RowW w a ws) (hf : FitW ws) (h0 : 0 ≤ left) (h1 : left ≤ 1048576) :
    Calls Tryz.prog 38 #[.slice a ws.length cap, .int .i64 left] w fun e w' => ∃ r : Int, e = .returned (.int .i64 r) ∧ -1 ≤ r ∧ r ≤ left ∧ (0 ≤ r → (lensW ws : Int) ≤ left ∧ SmallW left ws) ∧ Below w.heap.size w w' := by
  have hl := hf.1
  unfold maxLen at hl
  by_cases hc : left - (ws.length : Int) < 0
  · go_enter Tryz.func38, Tryz.ntmps38
    go_wp2_with fail
    go_ret
    exact ⟨-1, rfl, by omega, by omega, fun h => by omega, Below.refl _ _⟩
  · go_enter Tryz.func38, Tryz.ntmps38
    go_wp2_with fail
    go_loopw [1, 5] (fun lf i wr => ∃ (k n : Nat) (q : Int), k ≤ ws.length ∧ i = .int .i64 k ∧ lf = .int .i64 q ∧ 0 ≤ q ∧ Hid (n = lensW (ws.take k)) ∧ q + (n : Int) ≤ left ∧ (∀ j, (h : j < ws.length) → j < k → SmallI left ws[j]) ∧ Below w.heap.size w wr) (fun _ i _ => ws.length - (intOf i).toNat)
    case atStart => exact ⟨0, 0, _, Nat.zero_le _, rfl, rfl, by omega, rfl, by omega, fun j _ h => by omega, Below.refl _ _⟩
    case round =>
      obtain ⟨k, n, q, hk, rfl, rfl, hq0, HN, hq1, hall, hb⟩ := hrel
      by_cases hlt : k < ws.length
      · obtain ⟨b, o, rfl, hblt, s1, t1, c1, _, hrow⟩ := hr.below hb k hlt
        have HST : Hid (SmallI left ws[k] → ∀ j, (h : j < ws.length) → j < k + 1 → SmallI left ws[j]) := szW_step hall hlt
        have HN2 : Hid (n + (ws[k].length + lens ws[k]) = lensW (ws.take (k + 1))) := by rw [lensW_take hlt, ← HN.out]; rfl
        have k0 : (0 : Int) ≤ (k : Int) := by omega
        have k1 : (k : Int) < (ws.length : Int) := by omega
        clear hall
        go_wp2_with fail
        refine (szItemS_w s1 t1 ws[k] q _ hrow (hf.2 k hlt) hq0 (by omega)).mono ?_
        rintro e w1 ⟨r, rfl, hr0, hr1, hr2, hb1⟩
        have HR2 : Hid (0 ≤ r → r + (ws[k].length : Int) + (lens ws[k] : Int) ≤ q ∧ SmallI q ws[k]) := hr2
        clear hr2
        by_cases hneg : r < 0
        · go_wp2_with fail
          go_ret
          exact ⟨-1, rfl, by omega, by omega, fun h => by omega, hb.trans (hb1.mono hb.size)⟩
        · have hle := (HR2.out (by omega)).1
          go_wp2_with fail
          exact ⟨⟨k + 1, n + (ws[k].length + lens ws[k]), r, by omega, by go_num, rfl, by omega, HN2, by omega, HST.out ((HR2.out (by omega)).2.mono (by omega)), hb.trans (hb1.mono hb.size)⟩, by simp [intOf]; omega⟩
      · have HF : Hid (n = lensW ws) := by rw [HN.out, List.take_of_length_le (by omega)]; rfl
        go_wp2_with fail
        go_ret
        exact ⟨q, rfl, by omega, by omega, fun _ => ⟨by rw [← HF.out]; omega, by omega, fun j hj => hall j hj (by omega)⟩, hb⟩

/-- The windows from place k on, each in blocks of its own. -/
def FromW (w : World) (lo T g : Nat) (ws : List (List ItemL)) (k : Nat) : Prop :=
  ∃ (L U G : Nat → Nat) (f : Nat → Value), w.rowIs g 78 ws.length f ∧
    (∀ j, (h : j < ws.length) → k ≤ j → f j = .slice (some ⟨G j, 0, none⟩) ws[j].length ws[j].length ∧ PartI w (L j) (U j) (G j) ws[j] ws[j].length ∧ lo ≤ L j ∧ L j ≤ G j ∧ G j < U j ∧ U j ≤ T) ∧ ∀ i j, i < j → j < ws.length → U i ≤ L j
theorem PartW.from {w : World} {lo T g : Nat} {ws : List (List ItemL)} (h : PartW w lo T g ws ws.length) : FromW w lo T g ws 0 := by
  obtain ⟨L, U, G, f, h, hf, hd⟩ := h
  exact ⟨L, U, G, f, h, fun j hj _ => hf j hj hj, hd⟩
theorem Span.wide {lo hi lo' hi' : Nat} {w w' : World} (h : Span lo' hi' w w') (h1 : lo ≤ lo') (h2 : hi' ≤ hi) : Span lo hi w w' := ⟨h.os, h.tape, h.output, h.size, fun k hk hn => h.block k hk (by omega)⟩

set_option maxHeartbeats 800000 in
theorem markItemSS_any (g cap lo T : Nat) (ws : List (List ItemL)) (k : Int) (w : World) (hn : ws.length ≤ 1048576) (hgl : g < lo) (hk0 : 0 ≤ k) (hk1 : k ≤ 3000000) (hsum : lensW ws ≤ 1048576) (hs : SmallW 1048576 ws) (hp : PartW w lo T g ws ws.length) :
    Calls Tryz.prog 58 #[.slice (some ⟨g, 0, none⟩) ws.length cap, .int .i64 k] w fun e w' => (∃ k' : Int, e = .returned (.int .i64 k') ∧ 0 ≤ k' ∧ k' ≤ 6000000) ∧ Span lo T w w' := by
  have HS : Hid (SmallW 1048576 ws) := hs
  have hfr := hp.from
  clear hs hp
  go_enter Tryz.func58, Tryz.ntmps58
  go_wp2_with fail
  go_loopw [1, 5] (fun kv i wr => ∃ (j n : Nat) (kk : Int), j ≤ ws.length ∧ i = .int .i64 j ∧ kv = .int .i64 kk ∧ 0 ≤ kk ∧ kk ≤ k + 2 * (n : Int) ∧ Hid (n = lensW (ws.take j)) ∧ n ≤ 1048576 ∧ FromW wr lo T g ws j ∧ Span lo T w wr) (fun _ i _ => ws.length - (intOf i).toNat)
  case atStart => exact ⟨0, 0, k, Nat.zero_le _, rfl, rfl, hk0, by omega, rfl, by omega, hfr, Span.refl _ _ _⟩
  case round =>
    obtain ⟨j, n, kk, hj, rfl, rfl, hq0, hq1, HN, hn2, hfw, hsp⟩ := hrel
    clear hfr
    by_cases hlt : j < ws.length
    · obtain ⟨L, U, G, f, hrow, hall, hd⟩ := hfw
      obtain ⟨e1, hpi, l1, l2, l3, l4⟩ := hall j hlt (Nat.le_refl _)
      have c1 := hrow.cell hlt
      rw [e1] at c1
      have j0 : (0 : Int) ≤ (j : Int) := by omega
      have j1 : (j : Int) < (ws.length : Int) := by omega
      have hsm := HS.out.2 j hlt
      have hL1 : ws[j].length ≤ 1048576 := by have := hsm.1; omega
      have HL2 : Hid (∀ i, (h : i < ws[j].length) → ws[j][i].2.length ≤ 1048576) := fun i hi => by have := (hsm.2 i hi).1; omega
      have HN2 : Hid (n + (ws[j].length + lens ws[j]) = lensW (ws.take (j + 1))) := by rw [lensW_take hlt, ← HN.out]; rfl
      have hn3 : n + (ws[j].length + lens ws[j]) ≤ 1048576 := by rw [HN2.out]; exact Nat.le_trans (lensW_take_le ws (j + 1)) hsum
      have HREST : Hid (∀ w', Span (L j) (U j) wr w' → FromW w' lo T g ws (j + 1)) := fun w' hs => by
        refine ⟨L, U, G, f, hrow.of_block (hs.block g hrow.lt (by omega)), fun i hi hij => ?_, hd⟩
        obtain ⟨x1, x2, x3, x4, x5, x6⟩ := hall i hi (by omega)
        exact ⟨x1, x2.span x4 x5 hs (.inr (hd j i (by omega) hi)), x3, x4, x5, x6⟩
      clear hall hsm hd hrow e1
      go_wp2_with fail
      refine (markItemS_any (G j) ws[j].length (L j) (U j) ws[j] kk _ hL1 l2 l3 hq0 (by omega) HL2.out hpi).mono ?_
      rintro e w1 ⟨rfl, _, s1⟩
      have hfw1 := HREST.out w1 s1
      clear HREST
      go_wp2_with fail
      exact ⟨⟨j + 1, n + (ws[j].length + lens ws[j]), _, by omega, by go_num, rfl, by omega, by omega, HN2, hn3, hfw1, hsp.trans (s1.wide l1 l4)⟩, by simp [intOf]; omega⟩
    · go_wp2_with fail
      go_ret
      exact ⟨⟨kk, rfl, hq0, by omega⟩, hsp⟩

set_option maxHeartbeats 800000 in
theorem markIntS_any (b cap : Nat) (l : List Int) (k : Int) (w : World) (hn : l.length ≤ 1048576) (hk0 : 0 ≤ k) (hk1 : k ≤ 10000000) (ho : PartZ w b l l.length) :
    Calls Tryz.prog 33 #[.slice (some ⟨b, 0, none⟩) l.length cap, .int .i64 k] w fun e w' => e = .returned (.int .i64 (k + (l.length : Int))) ∧ But b w w' := by
  obtain ⟨f, hf, _⟩ := ho
  have hp : ∃ f, w.rowIs b 3 l.length f := ⟨f, hf⟩
  clear hf
  go_enter Tryz.func33, Tryz.ntmps33
  go_wp2_with fail
  go_loopw [1, 5] (fun kk i wr => ∃ j : Nat, j ≤ l.length ∧ i = .int .i64 j ∧ kk = .int .i64 (k + (j : Int)) ∧ (∃ f, wr.rowIs b 3 l.length f) ∧ But b w wr) (fun _ i _ => l.length - (intOf i).toNat)
  case atStart => exact ⟨0, Nat.zero_le _, rfl, by simp, hp, But.refl _ _⟩
  case round =>
    obtain ⟨j, hj, rfl, rfl, ⟨f, hpj⟩, hb⟩ := hrel
    by_cases hlt : j < l.length
    · have hv0 := hpj.cell hlt
      have hz0 := hpj.frozen j
      have j0 : (0 : Int) ≤ (j : Int) := by omega
      have j1 : (j : Int) < (l.length : Int) := by omega
      go_wp2_with fail
      exact ⟨⟨j + 1, by omega, by go_num, by congr 1; omega, ⟨_, hpj.set _ _⟩, hb.setCell _ _⟩, by simp [intOf]; omega⟩
    · obtain rfl : j = l.length := by omega
      go_wp2_with fail
      go_ret
      exact ⟨rfl, hb⟩

end Go.Proofs.YtpfhegengmlkmacGreatDoor
/- Walks: spec's l2Marks, l2Items. -/
namespace Go.Proofs.YtpfhegengmlkmacGreatDoor
open Go.RowKit Go.BigFrame
set_option maxRecDepth 100000

set_option maxHeartbeats 800000 in
theorem l2Marks_any (a : Option Addr) (c : Nat) (l : List (ByteArray × Int)) (w : World) (hr : Row w a l) (hl : l.length ≤ 1048576) :
    Calls Tryz.prog 47 #[.slice a l.length c] w fun e w' => (∃ g cap, e = .returned (.slice (some ⟨g, 0, none⟩) l.length cap) ∧ w.heap.size ≤ g ∧ l.length ≤ cap ∧ Own w' g l) ∧ Below w.heap.size w w' := by
  have hba : Below w.heap.size w (w.alloc (.cells #[] 144)) := (Below.refl _ _).alloc (Nat.le_refl _) _
  by_cases hl0 : l.length = 0
  · obtain rfl : l = [] := List.length_eq_zero_iff.1 hl0
    have HE : Hid (Own (w.alloc (.cells #[] 144)) w.heap.size []) := ⟨0, fun _ => undef, ⟨#[], heap_alloc_new w _, rfl, fun i hi => absurd hi (Nat.not_lt_zero i)⟩, by simp, fun k hk => absurd hk (Nat.not_lt_zero k)⟩
    cases a with
    | none =>
      go_enter Tryz.func47, Tryz.ntmps47
      go_wp2_with fail
      go_ret
      exact ⟨⟨_, 0, rfl, Nat.le_refl _, Nat.le_refl _, HE.out⟩, hba⟩
    | some ad =>
      go_enter Tryz.func47, Tryz.ntmps47
      go_wp2_with fail
      go_ret
      exact ⟨⟨_, 0, rfl, Nat.le_refl _, Nat.le_refl _, HE.out⟩, hba⟩
  · obtain ⟨b, o, rfl, _⟩ := hr 0 (by omega)
    have hra := hr.below hba
    go_enter Tryz.func47, Tryz.ntmps47
    go_wp2_with (at_builtin; refine wpList_append_copy rfl _ _ rfl w.heap.size w.heap.size b o c l rfl (heap_alloc_new w _) (Nat.le_refl _) rfl hra (by omega) hl ?_; intro g' cap' w4 hg4 hgrow)
    go_ret
    obtain ⟨h1, h2, h3⟩ := gath_own hg4
    exact ⟨⟨g', cap', rfl, h1, h2, h3⟩, hba.grown hgrow (by simp) (fun k e => by simp at e; omega)⟩

set_option maxHeartbeats 1600000 in
theorem l2Items_any (a : Option Addr) (cap : Nat) (l : List ItemL) (w : World) (hn : Small1 l) (hr : RowI w a l) :
    Calls Tryz.prog 81 #[.slice a l.length cap] w fun e w' => (∃ v, e = .returned v ∧ GathI w' w.heap.size v l) ∧ Below w.heap.size w w' := by
  obtain ⟨i0, hi, hz0, hz1, hz2⟩ := info_parts Tryz.infoI
  have hl := hn.1
  go_enter Tryz.func81, Tryz.ntmps81
  go_wp2_with fail
  go_loopw [3, 4] (fun out i wr => ∃ k : Nat, k ≤ l.length ∧ i = .int .i64 k ∧ GathI wr w.heap.size out (l.take k) ∧ Below w.heap.size w wr) (fun _ i _ => l.length - (intOf i).toNat)
  case atStart => exact ⟨0, Nat.zero_le _, rfl, gathI_none _ _, Below.refl _ _⟩
  case round =>
    obtain ⟨k, hk, rfl, hg, hb⟩ := hrel
    by_cases hlt : k < l.length
    · obtain ⟨b, o, rfl, hbw, cw0, v, cw1, hv⟩ := hr k hlt
      obtain ⟨sa, sc, rfl, hcap, hrow⟩ := hv
      replace hrow := hrow.below hb
      have c0 := cell_on hb hbw cw0
      have c1 := cell_on hb hbw cw1
      have hblt : b < wr.heap.size := Nat.lt_of_lt_of_le hbw hb.size
      have k0 : (0 : Int) ≤ (k : Int) := by omega
      have k1 : (k : Int) < (l.length : Int) := by omega
      have hlk := hn.2 k hlt
      have HT : Hid (l.take (k + 1) = l.take k ++ [(l[k].1, l[k].2)]) := List.take_succ_eq_append_getElem hlt
      have hzr := hb.size
      have htl : (l.take k).length ≤ 1048576 := by rw [List.length_take]; omega
      have SW : (wr.drew).cell? ⟨b, o + k * 2, none⟩ = some (.int .i64 l[k].1) ∧ (wr.drew).cell? ⟨b, o + k * 2 + 1, none⟩ = some (.slice sa l[k].2.length sc) := ⟨c0, c1⟩
      obtain ⟨oa, oc, rfl, _⟩ := hg.len
      have hkl : (l.take k).length = k := by rw [List.length_take]; omega
      rw [hkl] at hg
      clear hkl hcap
      go_wp2_with fail
      refine wp_region_held_drew (S := fun u => u.cell? ⟨b, o + k * 2, none⟩ = some (.int .i64 l[k].1) ∧ u.cell? ⟨b, o + k * 2 + 1, none⟩ = some (.slice sa l[k].2.length sc)) (by kernel_rfl) SW (fun _ => ?_)
      refine wpAnyH_take (i := 0) (v := .slice oa k oc) rfl (by kernel_rfl) (by kernel_rfl) (by kernel_rfl) (fun _ _ _ h => h) (Or.inl ⟨by rfl, ?_⟩) SW ?_
      · rintro u ⟨q1, q2⟩
        go_simp
      simp only [Act.put, List.setIfInBounds_toArray]
      refine wpAnyH_take (i := 1) (v := .slice (some ⟨b, o, none⟩) l.length cap) rfl (by kernel_rfl) (by kernel_rfl) (by kernel_rfl) (fun _ _ _ h => h) (Or.inl ⟨by rfl, ?_⟩) SW ?_
      · rintro u ⟨q1, q2⟩
        go_simp
      simp only [Act.put]
      refine wpAnyH_take (i := 2) (v := .int .i64 k) rfl (by kernel_rfl) (by kernel_rfl) (by kernel_rfl) (fun _ _ _ h => h) (Or.inl ⟨by rfl, ?_⟩) SW ?_
      · rintro u ⟨q1, q2⟩
        go_simp
      simp only [Act.put]
      refine wpAnyH_take (i := 3) (v := .pointer (some ⟨b, o + k * 2, none⟩)) rfl (by kernel_rfl) (by kernel_rfl) (by kernel_rfl) (fun _ _ _ h => h) (Or.inl ⟨by rfl, ?_⟩) SW ?_
      · rintro u ⟨q1, q2⟩
        go_simp
      simp only [Act.put]
      refine wpAnyH_take (i := 4) (v := .pointer (some ⟨b, o + k * 2, none⟩)) rfl (by kernel_rfl) (by kernel_rfl) (by kernel_rfl) (fun _ _ _ h => h) (Or.inl ⟨by rfl, ?_⟩) SW ?_
      · rintro u ⟨q1, q2⟩
        go_simp
      simp only [Act.put]
      refine wpAnyH_take (i := 5) (v := .int .i64 l[k].1) rfl (by kernel_rfl) (by kernel_rfl) (by kernel_rfl) (fun _ _ _ h => h) (Or.inl ⟨by rfl, ?_⟩) SW ?_
      · rintro u ⟨q1, q2⟩
        go_simp
      simp only [Act.put]
      refine wpAnyH_take (i := 6) (v := .slice (some ⟨b, o, none⟩) l.length cap) rfl (by kernel_rfl) (by kernel_rfl) (by kernel_rfl) (fun _ _ _ h => h) (Or.inl ⟨by rfl, ?_⟩) SW ?_
      · rintro u ⟨q1, q2⟩
        go_simp
      simp only [Act.put]
      refine wpAnyH_take (i := 7) (v := .int .i64 k) rfl (by kernel_rfl) (by kernel_rfl) (by kernel_rfl) (fun _ _ _ h => h) (Or.inl ⟨by rfl, ?_⟩) SW ?_
      · rintro u ⟨q1, q2⟩
        go_simp
      simp only [Act.put]
      refine wpAnyH_take (i := 8) (v := .pointer (some ⟨b, o + k * 2, none⟩)) rfl (by kernel_rfl) (by kernel_rfl) (by kernel_rfl) (fun _ _ _ h => h) (Or.inl ⟨by rfl, ?_⟩) SW ?_
      · rintro u ⟨q1, q2⟩
        go_simp
      simp only [Act.put]
      refine wpAnyH_take (i := 9) (v := .pointer (some ⟨b, o + k * 2 + 1, none⟩)) rfl (by kernel_rfl) (by kernel_rfl) (by kernel_rfl) (fun _ _ _ h => h) (Or.inl ⟨by rfl, ?_⟩) SW ?_
      · rintro u ⟨q1, q2⟩
        go_simp
      simp only [Act.put]
      refine wpAnyH_take (i := 10) (v := .slice sa l[k].2.length sc) rfl (by kernel_rfl) (by kernel_rfl) (by kernel_rfl) (fun _ _ _ h => h) (Or.inl ⟨by rfl, ?_⟩) SW ?_
      · rintro u ⟨q1, q2⟩
        go_simp
      simp only [Act.put]
      refine wpAnyH_ready (rs := [11]) (by kernel_rfl) (by simp) ?_
      refine AllReadyH.cons rfl (fun K hK => ?_) AllReadyH.nil
      rw [if_pos (by rfl)]
      go_simp
      have hbd : Below wr.heap.size wr wr.drew := (Below.refl _ _).drew
      refine (l2Marks_any sa sc l[k].2 _ (hrow.below hbd) hlk).mono ?_
      rintro e w2 ⟨⟨gm, cm, rfl, hgm, hcm, ho⟩, b2⟩
      have b2' : Below wr.heap.size wr w2 := hbd.trans (b2.mono hbd.size)
      have hgm' : wr.heap.size ≤ gm := hgm
      have S2 : w2.cell? ⟨b, o + k * 2, none⟩ = some (.int .i64 l[k].1) ∧ w2.cell? ⟨b, o + k * 2 + 1, none⟩ = some (.slice sa l[k].2.length sc) := ⟨cell_on b2' hblt c0, cell_on b2' hblt c1⟩
      refine hK.out _ _ S2 (fun _ => ?_)
      clear hK K b2 SW hbd
      refine wpAnyH_take (i := 12) (v := .agg #[.int .i64 l[k].1, .slice (some ⟨gm, 0, none⟩) l[k].2.length cm]) rfl (by kernel_rfl) (by kernel_rfl) (by kernel_rfl) (fun _ _ _ h => h) (Or.inl ⟨by rfl, ?_⟩) S2 ?_
      · rintro u ⟨q1, q2⟩
        go_simp
      simp only [Act.put, List.setIfInBounds_toArray]
      refine wpAnyH_ready (rs := [13]) (by kernel_rfl) (by simp) ?_
      refine AllReadyH.cons rfl (fun K hK => ?_) AllReadyH.nil
      rw [if_pos (by rfl)]
      go_simp
      have b3 : Below wr.heap.size wr (w2.alloc (.cells #[.int .i64 l[k].1, .slice (some ⟨gm, 0, none⟩) l[k].2.length cm] 44)) := b2'.alloc b2'.size _
      have S3 : (w2.alloc (.cells #[.int .i64 l[k].1, .slice (some ⟨gm, 0, none⟩) l[k].2.length cm] 44)).cell? ⟨b, o + k * 2, none⟩ = some (.int .i64 l[k].1) ∧ (w2.alloc (.cells #[.int .i64 l[k].1, .slice (some ⟨gm, 0, none⟩) l[k].2.length cm] 44)).cell? ⟨b, o + k * 2 + 1, none⟩ = some (.slice sa l[k].2.length sc) := ⟨cell_on b3 hblt c0, cell_on b3 hblt c1⟩
      have hbx : Below w2.heap.size w2 (w2.alloc (.cells #[.int .i64 l[k].1, .slice (some ⟨gm, 0, none⟩) l[k].2.length cm] 44)) := (Below.refl _ _).alloc (Nat.le_refl _) _
      refine hK.out _ _ S3 (fun _ => ?_)
      clear hK K
      refine wpAnyH_ready (rs := [14]) (by kernel_rfl) (by simp) ?_
      refine AllReadyH.cons rfl (fun K hK => ?_) AllReadyH.nil
      rw [if_pos (by rfl)]
      refine wp_append_item _ _ rfl wr w.heap.size _ (l.take k) rfl hg b3 hzr w2.heap.size l[k].1 l[k].2 gm cm rfl (box0 _ _ _ _) (box1 _ _ _ _) (ho.below hbx) hgm' hcm htl ?_
      intro v' w4 hg4 b4
      have B4 : Below w.heap.size w w4 := (hb.trans (b3.mono hzr)).trans b4
      have S4 : w4.cell? ⟨b, o + k * 2, none⟩ = some (.int .i64 l[k].1) ∧ w4.cell? ⟨b, o + k * 2 + 1, none⟩ = some (.slice sa l[k].2.length sc) := ⟨cell_on B4 hbw cw0, cell_on B4 hbw cw1⟩
      refine hK.out _ _ S4 (fun _ => ?_)
      clear hK K
      refine wpAnyH_ready (rs := [15]) (by kernel_rfl) (by simp) ?_
      refine AllReadyH.cons rfl (fun K hK => ?_) AllReadyH.nil
      rw [if_pos (by rfl)]
      go_simp
      refine hK.out _ _ S4 (fun _ => ?_)
      clear hK K
      refine wpAnyH_done (by kernel_rfl) ?_ _
      go_wp2_with fail
      exact ⟨⟨k + 1, by omega, by go_num, by rw [HT.out]; exact hg4, B4⟩, by simp [intOf]; omega⟩
    · go_wp2_with fail
      go_ret
      rw [List.take_of_length_le (by omega)] at hg
      exact ⟨⟨_, rfl, hg⟩, hb⟩

end Go.Proofs.YtpfhegengmlkmacGreatDoor
/- The ring of a window in memory. Walks: slot, size, at, last, push. -/
namespace Go.Proofs.YtpfhegengmlkmacGreatDoor
open Go.RowKit Go.BigFrame

/-- What kinds of values the eight slots' cells hold. -/
def Shp (f : Nat → Value) : Prop := ∀ i, i < 4 → ∃ x a n c, f (i * 2) = .int .i64 x ∧ f (i * 2 + 1) = .slice a n c
theorem Shp.far {f : Nat → Value} (h : Shp f) {i : Nat} (hi : 8 ≤ i) (v : Value) : Shp (fun j => if j = i then v else f j) := fun k hk => by
  obtain ⟨x, a, n, c, h1, h2⟩ := h k hk
  exact ⟨x, a, n, c, (if_neg (by omega)).trans h1, (if_neg (by omega)).trans h2⟩
theorem Shp.put {f : Nat → Value} (h : Shp f) {q : Nat} (x : Int) (a : Option Addr) (n c : Nat) : Shp (fun j => if j = q * 2 + 1 then .slice a n c else if j = q * 2 then .int .i64 x else f j) := fun k hk => by
  by_cases e : k = q
  · subst e
    exact ⟨x, a, n, c, (if_neg (by omega)).trans (if_pos rfl), if_pos rfl⟩
  · obtain ⟨x, a, n, c, h1, h2⟩ := h k hk
    exact ⟨x, a, n, c, (if_neg (by omega)).trans ((if_neg (by omega)).trans h1), (if_neg (by omega)).trans ((if_neg (by omega)).trans h2)⟩

/-- Block 'b' is a ring that begins at slot 's' and holds the items 'l', whose marks lie in W0. -/
def WinB (W0 w : World) (b s : Nat) (l : List ItemL) : Prop :=
  W0.heap.size ≤ b ∧ s < 4 ∧ l.length ≤ 4 ∧ ∃ f, (w.rowIs b 190 10 f ∧ Shp f) ∧ f 8 = .int .i64 s ∧ f 9 = .int .i64 l.length ∧
    ∀ k, (h : k < l.length) → f ((s + k) % 4 * 2) = .int .i64 l[k].1 ∧ ∃ v, f ((s + k) % 4 * 2 + 1) = v ∧ IsSl W0 v l[k].2

theorem set_far (w : World) {b q : Nat} (i : Nat) (v : Value) (o : Nat) (h : b ≠ q) : (w.setCell ⟨q, i, none⟩ v).cell? ⟨b, o, none⟩ = w.cell? ⟨b, o, none⟩ := World.cell?_of_block (Below.heap_setCell _ _ _ _ h)
theorem WinB.lt {W0 w : World} {b s : Nat} {l : List ItemL} (h : WinB W0 w b s l) : b < w.heap.size := by
  obtain ⟨_, _, _, f, ⟨h, _⟩, _⟩ := h
  exact h.lt
theorem WinB.below {W0 w w' : World} {b s : Nat} {l : List ItemL} (h : WinB W0 w b s l) (hb : Below w.heap.size w w') : WinB W0 w' b s l := by
  have hlt := h.lt
  obtain ⟨h0, h1, h2, f, ⟨h, sh⟩, r⟩ := h
  exact ⟨h0, h1, h2, f, ⟨h.of_block (hb.block b hlt), sh⟩, r⟩
theorem WinB.cells {W0 w : World} {b s : Nat} {l : List ItemL} (h : WinB W0 w b s l) : w.cell? ⟨b, 8, none⟩ = some (.int .i64 s) ∧ w.cell? ⟨b, 9, none⟩ = some (.int .i64 l.length) := by
  obtain ⟨h0, h1, h2, f, ⟨h, _⟩, e8, e9, _⟩ := h
  exact ⟨by rw [h.cell (by omega), e8], by rw [h.cell (by omega), e9]⟩
theorem WinB.item {W0 w : World} {b s : Nat} {l : List ItemL} (h : WinB W0 w b s l) {k : Nat} (hk : k < l.length) : ∃ v, w.cell? ⟨b, (s + k) % 4 * 2, none⟩ = some (.int .i64 l[k].1) ∧ w.cell? ⟨b, (s + k) % 4 * 2 + 1, none⟩ = some v ∧ IsSl W0 v l[k].2 := by
  obtain ⟨h0, h1, h2, f, ⟨h, _⟩, e8, e9, hf⟩ := h
  obtain ⟨a1, v, a2, a3⟩ := hf k hk
  exact ⟨v, by rw [h.cell (by omega), a1], by rw [h.cell (by omega), a2], a3⟩
theorem WinB.slot_cell {W0 w : World} {b s : Nat} {l : List ItemL} (h : WinB W0 w b s l) {i : Nat} (hi : i < 10) : ∃ v, w.cell? ⟨b, i, none⟩ = some v := by
  obtain ⟨h0, h1, h2, f, ⟨h, _⟩, _⟩ := h
  exact ⟨_, h.cell hi⟩
theorem WinB.free {W0 w : World} {b s : Nat} {l : List ItemL} (h : WinB W0 w b s l) (i : Nat) : w.frozen? ⟨b, i, none⟩ = false := by
  obtain ⟨h0, h1, h2, f, ⟨h, _⟩, _⟩ := h
  exact h.frozen i

set_option maxHeartbeats 400000 in
theorem slot_any (w : World) (b s k : Nat) (c8 : w.cell? ⟨b, 8, none⟩ = some (.int .i64 s)) (hs : s < 4) (hk : k < 4) :
    Calls Tryz.prog 171 #[.pointer (some ⟨b, 0, none⟩), .int .i64 k] w fun e w' => e = .returned (.int .i64 (((s + k) % 4 : Nat) : Int)) ∧ w' = w := by
  have hm : (((s + k) % 4 : Nat) : Int) = ((s : Int) + (k : Int)) % 4 := by omega
  have HM : Hid ((((s + k) % 4 : Nat) : Int) = ((s : Int) + (k : Int)) % 4) := hm
  clear hm
  go_enter Tryz.func171, Tryz.ntmps171
  go_wp2_with fail
  go_ret
  exact ⟨by rw [HM.out]; rfl, rfl⟩

set_option maxHeartbeats 400000 in
theorem size_any (W0 w : World) (b s : Nat) (l : List ItemL) (h : WinB W0 w b s l) :
    Calls Tryz.prog 167 #[.pointer (some ⟨b, 0, none⟩)] w fun e w' => e = .returned (.int .i64 (l.length : Int)) ∧ w' = w := by
  obtain ⟨c8, c9⟩ := h.cells
  go_enter Tryz.func167, Tryz.ntmps167
  go_wp2_with fail
  go_ret
  exact ⟨rfl, rfl⟩

set_option maxHeartbeats 400000 in
theorem at_any (W0 w : World) (b s : Nat) (l : List ItemL) (k : Nat) (h : WinB W0 w b s l) (hk : k < l.length) :
    Calls Tryz.prog 142 #[.pointer (some ⟨b, 0, none⟩), .int .i64 k] w fun e w' => (∃ v, e = .returned (.agg #[.int .i64 l[k].1, v]) ∧ IsSl W0 v l[k].2) ∧ Below w.heap.size w w' := by
  have h4 := h.2.2.1
  obtain ⟨v, c0, c1, hv⟩ := h.item hk
  obtain ⟨sa, sc, rfl, hcap, hrow⟩ := hv
  have hwl := h.lt
  have HW := h.below ((Below.refl w.heap.size w).alloc (Nat.le_refl _) (.cells #[.int .i64 0, .slice none 0 0] 44))
  have e0 := cell_on ((Below.refl w.heap.size w).alloc (Nat.le_refl _) (.cells #[.int .i64 0, .slice none 0 0] 44)) hwl c0
  have e1 := cell_on ((Below.refl w.heap.size w).alloc (Nat.le_refl _) (.cells #[.int .i64 0, .slice none 0 0] 44)) hwl c1
  have d0 : (w.alloc (.cells #[.int .i64 0, .slice none 0 0] 44)).cell? ⟨w.heap.size, 0, none⟩ = some (.int .i64 0) := box0 _ _ _ _
  have d1 : (w.alloc (.cells #[.int .i64 0, .slice none 0 0] 44)).cell? ⟨w.heap.size, 1, none⟩ = some (.slice none 0 0) := box1 _ _ _ _
  have f0 : (w.alloc (.cells #[.int .i64 0, .slice none 0 0] 44)).frozen? ⟨w.heap.size, 0, none⟩ = false := by simp [go_sem]
  have f1 : (w.alloc (.cells #[.int .i64 0, .slice none 0 0] 44)).frozen? ⟨w.heap.size, 1, none⟩ = false := by simp [go_sem]
  have hb0 : Below w.heap.size w (w.alloc (.cells #[.int .i64 0, .slice none 0 0] 44)) := (Below.refl w.heap.size w).alloc (Nat.le_refl _) _
  have hm1 : (0 : Int) ≤ (((s + k) % 4 : Nat) : Int) := by omega
  have hm2 : (((s + k) % 4 : Nat) : Int) < 4 := by omega
  go_enter Tryz.func142, Tryz.ntmps142
  go_wp2_with fail
  generalize hW : w.alloc (.cells #[.int .i64 0, .slice none 0 0] 44) = W at *
  clear hW
  have HS : ∀ u, Below W.heap.size W u → Calls Tryz.prog 171 #[.pointer (some ⟨b, 0, none⟩), .int .i64 k] u fun e w' => e = .returned (.int .i64 (((s + k) % 4 : Nat) : Int)) ∧ w' = u := fun u hu => slot_any u b s k (HW.below hu).cells.1 (HW.2.1) (by omega)
  clear c0 c1
  generalize hq : (s + k) % 4 = q at *
  clear hq
  have hne : b ≠ w.heap.size := by omega
  go_region_held3 (fun w' => w'.cell? ⟨b, q * 2, none⟩ = some (.int .i64 l[k].1) ∧ w'.cell? ⟨b, q * 2 + 1, none⟩ = some (.slice sa l[k].2.length sc)) (first | exact ⟨e0, e1⟩ | (simp only [World.cell?_drew, set_far _ _ _ _ hne, e0, e1, and_self]; done))
    (first | (go_at_call 171; refine (HS _ (by first | exact Below.refl _ _ | exact (Below.refl _ _).drew | exact below_drewN (Below.refl _ _) _)).mono ?_; rintro e w1 ⟨rfl, rfl⟩))
  go_wp2_with fail
  exact bodyPost_ret (v := .agg #[.int .i64 l[k].1, .slice sa l[k].2.length sc]) (by simp [results, Tryz.results142, go_sem, d0, d1]) rfl ⟨⟨_, rfl, sa, sc, rfl, hcap, hrow⟩, ((hb0.setCell (Nat.le_refl _) _).setCell (Nat.le_refl _) _).drew⟩

set_option maxHeartbeats 400000 in
theorem last_any (W0 w : World) (b s : Nat) (l : List ItemL) (h : WinB W0 w b s l) (h0 : 0 < l.length) :
    Calls Tryz.prog 168 #[.pointer (some ⟨b, 0, none⟩)] w fun e w' => (∃ v, e = .returned (.agg #[.int .i64 (l[l.length - 1]'(by omega)).1, v]) ∧ IsSl W0 v (l[l.length - 1]'(by omega)).2) ∧ Below w.heap.size w w' := by
  have h4 := h.2.2.1
  obtain ⟨c8, c9⟩ := h.cells
  have hwl := h.lt
  have d0 : (w.alloc (.cells #[.int .i64 0, .slice none 0 0] 44)).cell? ⟨w.heap.size, 0, none⟩ = some (.int .i64 0) := box0 _ _ _ _
  have d1 : (w.alloc (.cells #[.int .i64 0, .slice none 0 0] 44)).cell? ⟨w.heap.size, 1, none⟩ = some (.slice none 0 0) := box1 _ _ _ _
  have f0 : (w.alloc (.cells #[.int .i64 0, .slice none 0 0] 44)).frozen? ⟨w.heap.size, 0, none⟩ = false := by simp [go_sem]
  have f1 : (w.alloc (.cells #[.int .i64 0, .slice none 0 0] 44)).frozen? ⟨w.heap.size, 1, none⟩ = false := by simp [go_sem]
  have hb0 : Below w.heap.size w (w.alloc (.cells #[.int .i64 0, .slice none 0 0] 44)) := (Below.refl w.heap.size w).alloc (Nat.le_refl _) _
  have hWl : w.heap.size < (w.alloc (.cells #[.int .i64 0, .slice none 0 0] 44)).heap.size := box_lt _ _
  have hkm : ((l.length : Int) - 1) = ((l.length - 1 : Nat) : Int) := by omega
  go_enter Tryz.func168, Tryz.ntmps168
  go_wp2_with fail
  generalize hW : w.alloc (.cells #[.int .i64 0, .slice none 0 0] 44) = W at *
  clear hW
  refine (at_any W0 W b s l (l.length - 1) (h.below hb0) (by omega)).mono ?_
  rintro e w1 ⟨⟨v, rfl, hv⟩, b1⟩
  obtain ⟨sa, sc, rfl, hcap, hrow⟩ := hv
  replace d0 := cell_on b1 hWl d0
  replace d1 := cell_on b1 hWl d1
  replace f0 := (b1.frozen (p := ⟨w.heap.size, 0, none⟩) hWl).trans f0
  replace f1 := (b1.frozen (p := ⟨w.heap.size, 1, none⟩) hWl).trans f1
  have B1 : Below w.heap.size w w1 := hb0.trans (b1.mono hb0.size)
  clear b1 hb0 c8 c9
  go_wp2_with fail
  exact bodyPost_ret (v := .agg #[.int .i64 (l[l.length - 1]'(by omega)).1, .slice sa (l[l.length - 1]'(by omega)).2.length sc]) (by simp [results, Tryz.results168, go_sem, d0, d1]) rfl ⟨⟨_, rfl, sa, sc, rfl, hcap, hrow⟩, (B1.setCell (Nat.le_refl _) _).setCell (Nat.le_refl _) _⟩

theorem wrap_small {n : Int} (h0 : 0 ≤ n) (h1 : n ≤ 1000000) : IntKind.i64.wrap n = n := by
  rw [IntKind.wrap_i64]
  omega
theorem WinB.put {W0 w : World} {b s : Nat} {l : List ItemL} {f : Nat → Value} {x : Int} {sa : Option Addr} {sc : Nat} {m : List (ByteArray × Int)} (hB : W0.heap.size ≤ b) (hs : s < 4) (h4 : l.length < 4) (hr : w.rowIs b 190 10 f) (hsh : Shp f) (e8 : f 8 = .int .i64 s) (e9 : f 9 = .int .i64 ((l.length : Int) + 1))
    (hf : ∀ k, (h : k < l.length) → f ((s + k) % 4 * 2) = .int .i64 l[k].1 ∧ ∃ v, f ((s + k) % 4 * 2 + 1) = v ∧ IsSl W0 v l[k].2) (hcap : m.length ≤ sc) (hrow : Row W0 sa m) :
    WinB W0 ((w.setCell ⟨b, (s + l.length) % 4 * 2, none⟩ (.int .i64 x)).setCell ⟨b, (s + l.length) % 4 * 2 + 1, none⟩ (.slice sa m.length sc)) b s (l ++ [(x, m)]) := by
  have hlen : (l ++ [(x, m)]).length = l.length + 1 := by simp
  refine ⟨hB, hs, by omega, _, ⟨(hr.set _ _).set _ _, hsh.put _ _ _ _⟩, ?_, ?_, fun k hk => ?_⟩
  · rw [if_neg (by omega), if_neg (by omega)]; exact e8
  · rw [if_neg (by omega), if_neg (by omega), e9, hlen]
    congr 1
  · by_cases e : k = l.length
    · subst e
      rw [List.getElem_concat_length rfl]
      refine ⟨by rw [if_neg (by omega), if_pos rfl], .slice sa m.length sc, by rw [if_pos rfl], sa, sc, rfl, hcap, hrow⟩
    · have hk' : k < l.length := by omega
      obtain ⟨h1, v, h2, h3⟩ := hf k hk'
      rw [List.getElem_append_left hk']
      refine ⟨by rw [if_neg (by omega), if_neg (by omega)]; exact h1, v, by rw [if_neg (by omega), if_neg (by omega)]; exact h2, h3⟩

set_option maxHeartbeats 800000 in
theorem push_room (W0 w : World) (b s : Nat) (l : List ItemL) (x : Int) (v : Value) (m : List (ByteArray × Int)) (h : WinB W0 w b s l) (hv : IsSl W0 v m) (h4 : l.length < 4) :
    Calls Tryz.prog 131 #[.pointer (some ⟨b, 0, none⟩), .agg #[.int .i64 x, v]] w fun e w' => e = .returned (.tuple #[]) ∧ WinB W0 w' b s (l ++ [(x, m)]) ∧ But b w w' := by
  obtain ⟨c8, c9⟩ := h.cells
  have f9 := h.free 9
  have hwl := h.lt
  have hs := h.2.1
  obtain ⟨sa, sc, rfl, hcap, hrow⟩ := hv
  have hne : b ≠ w.heap.size := by omega
  obtain ⟨hB, _, _, f, ⟨hr, hsh⟩, e8, e9, hf⟩ := h
  have hb0 : But b w ((w.setCell ⟨b, 9, none⟩ (.int .i64 ((l.length : Int) + 1))).alloc (.cells #[.int .i64 x, .slice sa m.length sc] 44)) := ((But.refl b w).setCell _ _).trans (But.of_below ((Below.refl _ _).alloc (Nat.le_refl _) _))
  have R1 := (hr.set 9 (.int .i64 ((l.length : Int) + 1))).alloc (.cells #[.int .i64 x, .slice sa m.length sc] 44)
  have d0 : ((w.setCell ⟨b, 9, none⟩ (.int .i64 ((l.length : Int) + 1))).alloc (.cells #[.int .i64 x, .slice sa m.length sc] 44)).cell? ⟨w.heap.size, 0, none⟩ = some (.int .i64 x) := by have h := box0 (w.setCell ⟨b, 9, none⟩ (.int .i64 ((l.length : Int) + 1))) (.int .i64 x) (.slice sa m.length sc) 44; simpa [World.setCell] using h
  have d1 : ((w.setCell ⟨b, 9, none⟩ (.int .i64 ((l.length : Int) + 1))).alloc (.cells #[.int .i64 x, .slice sa m.length sc] 44)).cell? ⟨w.heap.size, 1, none⟩ = some (.slice sa m.length sc) := by have h := box1 (w.setCell ⟨b, 9, none⟩ (.int .i64 ((l.length : Int) + 1))) (.int .i64 x) (.slice sa m.length sc) 44; simpa [World.setCell] using h
  go_enter Tryz.func131, Tryz.ntmps131
  go_wp2_with fail
  generalize hW : (w.setCell ⟨b, 9, none⟩ (.int .i64 ((l.length : Int) + 1))).alloc (.cells #[.int .i64 x, .slice sa m.length sc] 44) = W at *
  clear hW
  have g8 : W.cell? ⟨b, 8, none⟩ = some (.int .i64 s) := by rw [R1.cell (by omega), if_neg (by omega), e8]
  have g9 : W.cell? ⟨b, 9, none⟩ = some (.int .i64 ((l.length : Int) + 1)) := by rw [R1.cell (by omega), if_pos rfl]
  have HP : Hid (WinB W0 ((W.setCell ⟨b, (s + l.length) % 4 * 2, none⟩ (.int .i64 x)).setCell ⟨b, (s + l.length) % 4 * 2 + 1, none⟩ (.slice sa m.length sc)) b s (l ++ [(x, m)])) := WinB.put hB hs h4 R1 (hsh.far (by omega) _) (by rw [if_neg (by omega), e8]) (by rw [if_pos rfl]) (fun k hk => by
    obtain ⟨h1, v, h2, h3⟩ := hf k hk
    exact ⟨by rw [if_neg (by omega), h1], v, by rw [if_neg (by omega), h2], h3⟩) hcap hrow
  have HS : ∀ u, Below W.heap.size W u → Calls Tryz.prog 171 #[.pointer (some ⟨b, 0, none⟩), .int .i64 l.length] u fun e w' => e = .returned (.int .i64 (((s + l.length) % 4 : Nat) : Int)) ∧ w' = u := fun u hu => slot_any u b s l.length (cell_on hu (block_lt_of_cell g8) g8) hs h4
  have hq4 : (s + l.length) % 4 < 4 := Nat.mod_lt _ (by omega)
  generalize hq : (s + l.length) % 4 = q at *
  clear hq c8 c9
  have R2 := (R1.set (q * 2) (.int .i64 x)).set (q * 2 + 1) (.slice sa m.length sc)
  have k9 : ((W.setCell ⟨b, q * 2, none⟩ (.int .i64 x)).setCell ⟨b, q * 2 + 1, none⟩ (.slice sa m.length sc)).cell? ⟨b, 9, none⟩ = some (.int .i64 ((l.length : Int) + 1)) := by rw [R2.cell (by omega), if_neg (by omega), if_neg (by omega), if_pos rfl]
  have k0 : ((W.setCell ⟨b, q * 2, none⟩ (.int .i64 x)).setCell ⟨b, q * 2 + 1, none⟩ (.slice sa m.length sc)).cell? ⟨w.heap.size, 0, none⟩ = some (.int .i64 x) := by rw [set_far _ _ _ _ (Ne.symm hne), set_far _ _ _ _ (Ne.symm hne)]; exact d0
  have k1 : ((W.setCell ⟨b, q * 2, none⟩ (.int .i64 x)).setCell ⟨b, q * 2 + 1, none⟩ (.slice sa m.length sc)).cell? ⟨w.heap.size, 1, none⟩ = some (.slice sa m.length sc) := by rw [set_far _ _ _ _ (Ne.symm hne), set_far _ _ _ _ (Ne.symm hne)]; exact d1
  obtain ⟨u0, x0⟩ : ∃ u, W.cell? ⟨b, q * 2, none⟩ = some u := ⟨_, R1.cell (by omega)⟩
  obtain ⟨u1, x1⟩ : ∃ u, W.cell? ⟨b, q * 2 + 1, none⟩ = some u := ⟨_, R1.cell (by omega)⟩
  have y0 := R1.frozen (q * 2)
  have y1 := R1.frozen (q * 2 + 1)
  have hm1 : (0 : Int) ≤ (q : Int) := by omega
  have hm2 : (q : Int) < 4 := by omega
  clear R1 R2 hr e8 e9 hf
  have SW : (W.drew).cell? ⟨b, 9, none⟩ = some (.int .i64 ((l.length : Int) + 1)) ∧ (W.drew).cell? ⟨w.heap.size, 0, none⟩ = some (.int .i64 x) ∧ (W.drew).cell? ⟨w.heap.size, 1, none⟩ = some (.slice sa m.length sc) := ⟨g9, d0, d1⟩
  refine wp_region_held_drew (S := fun u => u.cell? ⟨b, 9, none⟩ = some (.int .i64 ((l.length : Int) + 1)) ∧ u.cell? ⟨w.heap.size, 0, none⟩ = some (.int .i64 x) ∧ u.cell? ⟨w.heap.size, 1, none⟩ = some (.slice sa m.length sc)) (by kernel_rfl) SW (fun _ => ?_)
  refine wpAnyH_take (i := 0) (v := .pointer (some ⟨b, 0, none⟩)) rfl (by kernel_rfl) (by kernel_rfl) (by kernel_rfl) (fun _ _ _ h => h) (Or.inl ⟨by rfl, ?_⟩) SW ?_
  · rintro u ⟨q1, q2, q3⟩
    go_simp
  simp only [Act.put, List.setIfInBounds_toArray]
  refine wpAnyH_take (i := 1) (v := .pointer (some ⟨b, 0, none⟩)) rfl (by kernel_rfl) (by kernel_rfl) (by kernel_rfl) (fun _ _ _ h => h) (Or.inl ⟨by rfl, ?_⟩) SW ?_
  · rintro u ⟨q1, q2, q3⟩
    go_simp
  simp only [Act.put]
  refine wpAnyH_take (i := 2) (v := .pointer (some ⟨b, 0, none⟩)) rfl (by kernel_rfl) (by kernel_rfl) (by kernel_rfl) (fun _ _ _ h => h) (Or.inl ⟨by rfl, ?_⟩) SW ?_
  · rintro u ⟨q1, q2, q3⟩
    go_simp
  simp only [Act.put]
  refine wpAnyH_take (i := 3) (v := .pointer (some ⟨b, 0, none⟩)) rfl (by kernel_rfl) (by kernel_rfl) (by kernel_rfl) (fun _ _ _ h => h) (Or.inl ⟨by rfl, ?_⟩) SW ?_
  · rintro u ⟨q1, q2, q3⟩
    go_simp
  simp only [Act.put]
  refine wpAnyH_take (i := 4) (v := .pointer (some ⟨b, 9, none⟩)) rfl (by kernel_rfl) (by kernel_rfl) (by kernel_rfl) (fun _ _ _ h => h) (Or.inl ⟨by rfl, ?_⟩) SW ?_
  · rintro u ⟨q1, q2, q3⟩
    go_simp
  simp only [Act.put]
  refine wpAnyH_take (i := 5) (v := .int .i64 ((l.length : Int) + 1)) rfl (by kernel_rfl) (by kernel_rfl) (by kernel_rfl) (fun _ _ _ h => h) (Or.inl ⟨by rfl, ?_⟩) SW ?_
  · rintro u ⟨q1, q2, q3⟩
    go_simp
  simp only [Act.put]
  refine wpAnyH_take (i := 6) (v := .int .i64 (l.length : Int)) rfl (by kernel_rfl) (by kernel_rfl) (by kernel_rfl) (fun _ _ _ h => h) (Or.inl ⟨by rfl, ?_⟩) SW ?_
  · rintro u ⟨q1, q2, q3⟩
    go_simp
    exact wrap_small (by omega) (by omega)
  simp only [Act.put]
  refine wpAnyH_take (i := 8) (v := .agg #[.int .i64 x, .slice sa m.length sc]) rfl (by kernel_rfl) (by kernel_rfl) (by kernel_rfl) (fun _ _ _ h => h) (Or.inl ⟨by rfl, ?_⟩) SW ?_
  · rintro u ⟨q1, q2, q3⟩
    go_simp
  simp only [Act.put]
  refine wpAnyH_take (i := 9) (v := .pointer (some ⟨b, 0, none⟩)) rfl (by kernel_rfl) (by kernel_rfl) (by kernel_rfl) (fun _ _ _ h => h) (Or.inl ⟨by rfl, ?_⟩) SW ?_
  · rintro u ⟨q1, q2, q3⟩
    go_simp
  simp only [Act.put]
  refine wpAnyH_take (i := 10) (v := .pointer (some ⟨b, 0, none⟩)) rfl (by kernel_rfl) (by kernel_rfl) (by kernel_rfl) (fun _ _ _ h => h) (Or.inl ⟨by rfl, ?_⟩) SW ?_
  · rintro u ⟨q1, q2, q3⟩
    go_simp
  simp only [Act.put]
  refine wpAnyH_ready (rs := [7]) (by kernel_rfl) (by simp) ?_
  refine AllReadyH.cons rfl (fun K hK => ?_) AllReadyH.nil
  rw [if_pos (by rfl)]
  go_simp
  refine (HS _ (Below.refl _ _).drew).mono ?_
  rintro e w1 ⟨rfl, rfl⟩
  refine hK.out _ _ SW (fun _ => ?_)
  clear hK K
  refine wpAnyH_ready (rs := [11]) (by kernel_rfl) (by simp) ?_
  refine AllReadyH.cons rfl (fun K hK => ?_) AllReadyH.nil
  rw [if_pos (by rfl)]
  go_simp
  refine hK.out _ _ SW (fun _ => ?_)
  clear hK K
  refine wpAnyH_ready (rs := [12]) (by kernel_rfl) (by simp) ?_
  refine AllReadyH.cons rfl (fun K hK => ?_) AllReadyH.nil
  rw [if_pos (by rfl)]
  go_simp
  refine hK.out _ _ ⟨k9, k0, k1⟩ (fun _ => ?_)
  clear hK K
  refine wpAnyH_done (by kernel_rfl) ?_ _
  go_wp2_with fail
  exact bodyPost_end (results_none rfl _ _ _) rfl ⟨rfl, HP.out.below (Below.refl _ _).drew, ((hb0.setCell _ _).setCell _ _).trans (But.of_below (Below.refl _ _).drew)⟩

set_option maxHeartbeats 800000 in
theorem push_full (W0 w : World) (b s : Nat) (l : List ItemL) (x : Int) (v : Value) (m : List (ByteArray × Int)) (h : WinB W0 w b s l) (hv : IsSl W0 v m) (h4 : l.length = 4) :
    Calls Tryz.prog 131 #[.pointer (some ⟨b, 0, none⟩), .agg #[.int .i64 x, v]] w fun e w' => e = .returned (.tuple #[]) ∧ WinB W0 w' b ((s + 1) % 4) (l.tail ++ [(x, m)]) ∧ But b w w' := by
  obtain ⟨c8, c9⟩ := h.cells
  have f8 := h.free 8
  have hwl := h.lt
  have hs := h.2.1
  obtain ⟨sa, sc, rfl, hcap, hrow⟩ := hv
  have hne : b ≠ w.heap.size := by omega
  obtain ⟨hB, _, _, f, ⟨hr, hsh⟩, e8, e9, hf⟩ := h
  have hb0 : But b w ((w.setCell ⟨b, 8, none⟩ (.int .i64 (((s + 1) % 4 : Nat) : Int))).alloc (.cells #[.int .i64 x, .slice sa m.length sc] 44)) := ((But.refl b w).setCell _ _).trans (But.of_below ((Below.refl _ _).alloc (Nat.le_refl _) _))
  have R1 := (hr.set 8 (.int .i64 (((s + 1) % 4 : Nat) : Int))).alloc (.cells #[.int .i64 x, .slice sa m.length sc] 44)
  have d0 : ((w.setCell ⟨b, 8, none⟩ (.int .i64 (((s + 1) % 4 : Nat) : Int))).alloc (.cells #[.int .i64 x, .slice sa m.length sc] 44)).cell? ⟨w.heap.size, 0, none⟩ = some (.int .i64 x) := by have h := box0 (w.setCell ⟨b, 8, none⟩ (.int .i64 (((s + 1) % 4 : Nat) : Int))) (.int .i64 x) (.slice sa m.length sc) 44; simpa [World.setCell] using h
  have d1 : ((w.setCell ⟨b, 8, none⟩ (.int .i64 (((s + 1) % 4 : Nat) : Int))).alloc (.cells #[.int .i64 x, .slice sa m.length sc] 44)).cell? ⟨w.heap.size, 1, none⟩ = some (.slice sa m.length sc) := by have h := box1 (w.setCell ⟨b, 8, none⟩ (.int .i64 (((s + 1) % 4 : Nat) : Int))) (.int .i64 x) (.slice sa m.length sc) 44; simpa [World.setCell] using h
  have hl4 : (l.length : Int) = 4 := by omega
  have HM : Hid ((((s + 1) % 4 : Nat) : Int) = ((s : Int) + 1) % 4) := by unfold Hid; omega
  rw [hl4] at c9
  go_enter Tryz.func131, Tryz.ntmps131
  go_wp2_with fail
  rw [← HM.out]
  generalize hW : (w.setCell ⟨b, 8, none⟩ (.int .i64 (((s + 1) % 4 : Nat) : Int))).alloc (.cells #[.int .i64 x, .slice sa m.length sc] 44) = W at *
  clear hW
  have g8 : W.cell? ⟨b, 8, none⟩ = some (.int .i64 (((s + 1) % 4 : Nat) : Int)) := by rw [R1.cell (by omega), if_pos rfl]
  have g9 : W.cell? ⟨b, 9, none⟩ = some (.int .i64 4) := by rw [R1.cell (by omega), if_neg (by omega), e9, h4]; rfl
  have ht : l.tail.length = 3 := by rw [List.length_tail]; omega
  have HP : Hid (WinB W0 ((W.setCell ⟨b, ((s + 1) % 4 + 3) % 4 * 2, none⟩ (.int .i64 x)).setCell ⟨b, ((s + 1) % 4 + 3) % 4 * 2 + 1, none⟩ (.slice sa m.length sc)) b ((s + 1) % 4) (l.tail ++ [(x, m)])) := by
    have h := WinB.put (W0 := W0) (l := l.tail) (x := x) hB (Nat.mod_lt (s + 1) (by omega : 4 > 0)) (by omega) R1 (hsh.far (by omega) _) (by rw [if_pos rfl]) (by rw [if_neg (by omega), e9, ht, h4]; rfl) (fun k hk => by
      obtain ⟨h1, v, h2, h3⟩ := hf (k + 1) (by omega)
      have hm : ((s + 1) % 4 + k) % 4 = (s + (k + 1)) % 4 := by omega
      rw [hm, List.getElem_tail]
      exact ⟨by rw [if_neg (by omega), h1], v, by rw [if_neg (by omega), h2], h3⟩) hcap hrow
    rw [ht] at h
    exact h
  have HS : ∀ u, Below W.heap.size W u → Calls Tryz.prog 171 #[.pointer (some ⟨b, 0, none⟩), .int .i64 3] u fun e w' => e = .returned (.int .i64 ((((s + 1) % 4 + 3) % 4 : Nat) : Int)) ∧ w' = u := fun u hu => slot_any u b ((s + 1) % 4) 3 (cell_on hu (block_lt_of_cell g8) g8) (Nat.mod_lt _ (by omega)) (by omega)
  have hq4 : ((s + 1) % 4 + 3) % 4 < 4 := Nat.mod_lt _ (by omega)
  generalize hq : ((s + 1) % 4 + 3) % 4 = q at *
  clear hq c8 c9
  have R2 := (R1.set (q * 2) (.int .i64 x)).set (q * 2 + 1) (.slice sa m.length sc)
  have k9 : ((W.setCell ⟨b, q * 2, none⟩ (.int .i64 x)).setCell ⟨b, q * 2 + 1, none⟩ (.slice sa m.length sc)).cell? ⟨b, 9, none⟩ = some (.int .i64 4) := by rw [R2.cell (by omega), if_neg (by omega), if_neg (by omega), if_neg (by omega), e9, h4]; rfl
  have k0 : ((W.setCell ⟨b, q * 2, none⟩ (.int .i64 x)).setCell ⟨b, q * 2 + 1, none⟩ (.slice sa m.length sc)).cell? ⟨w.heap.size, 0, none⟩ = some (.int .i64 x) := by rw [set_far _ _ _ _ (Ne.symm hne), set_far _ _ _ _ (Ne.symm hne)]; exact d0
  have k1 : ((W.setCell ⟨b, q * 2, none⟩ (.int .i64 x)).setCell ⟨b, q * 2 + 1, none⟩ (.slice sa m.length sc)).cell? ⟨w.heap.size, 1, none⟩ = some (.slice sa m.length sc) := by rw [set_far _ _ _ _ (Ne.symm hne), set_far _ _ _ _ (Ne.symm hne)]; exact d1
  obtain ⟨u0, x0⟩ : ∃ u, W.cell? ⟨b, q * 2, none⟩ = some u := ⟨_, R1.cell (by omega)⟩
  obtain ⟨u1, x1⟩ : ∃ u, W.cell? ⟨b, q * 2 + 1, none⟩ = some u := ⟨_, R1.cell (by omega)⟩
  have y0 := R1.frozen (q * 2)
  have y1 := R1.frozen (q * 2 + 1)
  have hm1 : (0 : Int) ≤ (q : Int) := by omega
  have hm2 : (q : Int) < 4 := by omega
  clear R1 R2 hr e8 e9 hf
  have SW : (W.drew).cell? ⟨b, 9, none⟩ = some (.int .i64 4) ∧ (W.drew).cell? ⟨w.heap.size, 0, none⟩ = some (.int .i64 x) ∧ (W.drew).cell? ⟨w.heap.size, 1, none⟩ = some (.slice sa m.length sc) := ⟨g9, d0, d1⟩
  refine wp_region_held_drew (S := fun u => u.cell? ⟨b, 9, none⟩ = some (.int .i64 4) ∧ u.cell? ⟨w.heap.size, 0, none⟩ = some (.int .i64 x) ∧ u.cell? ⟨w.heap.size, 1, none⟩ = some (.slice sa m.length sc)) (by kernel_rfl) SW (fun _ => ?_)
  refine wpAnyH_take (i := 0) (v := .pointer (some ⟨b, 0, none⟩)) rfl (by kernel_rfl) (by kernel_rfl) (by kernel_rfl) (fun _ _ _ h => h) (Or.inl ⟨by rfl, ?_⟩) SW ?_
  · rintro u ⟨q1, q2, q3⟩
    go_simp
  simp only [Act.put, List.setIfInBounds_toArray]
  refine wpAnyH_take (i := 1) (v := .pointer (some ⟨b, 0, none⟩)) rfl (by kernel_rfl) (by kernel_rfl) (by kernel_rfl) (fun _ _ _ h => h) (Or.inl ⟨by rfl, ?_⟩) SW ?_
  · rintro u ⟨q1, q2, q3⟩
    go_simp
  simp only [Act.put]
  refine wpAnyH_take (i := 2) (v := .pointer (some ⟨b, 0, none⟩)) rfl (by kernel_rfl) (by kernel_rfl) (by kernel_rfl) (fun _ _ _ h => h) (Or.inl ⟨by rfl, ?_⟩) SW ?_
  · rintro u ⟨q1, q2, q3⟩
    go_simp
  simp only [Act.put]
  refine wpAnyH_take (i := 3) (v := .pointer (some ⟨b, 0, none⟩)) rfl (by kernel_rfl) (by kernel_rfl) (by kernel_rfl) (fun _ _ _ h => h) (Or.inl ⟨by rfl, ?_⟩) SW ?_
  · rintro u ⟨q1, q2, q3⟩
    go_simp
  simp only [Act.put]
  refine wpAnyH_take (i := 4) (v := .pointer (some ⟨b, 9, none⟩)) rfl (by kernel_rfl) (by kernel_rfl) (by kernel_rfl) (fun _ _ _ h => h) (Or.inl ⟨by rfl, ?_⟩) SW ?_
  · rintro u ⟨q1, q2, q3⟩
    go_simp
  simp only [Act.put]
  refine wpAnyH_take (i := 5) (v := .int .i64 4) rfl (by kernel_rfl) (by kernel_rfl) (by kernel_rfl) (fun _ _ _ h => h) (Or.inl ⟨by rfl, ?_⟩) SW ?_
  · rintro u ⟨q1, q2, q3⟩
    go_simp
  simp only [Act.put]
  refine wpAnyH_take (i := 6) (v := .int .i64 3) rfl (by kernel_rfl) (by kernel_rfl) (by kernel_rfl) (fun _ _ _ h => h) (Or.inl ⟨by rfl, ?_⟩) SW ?_
  · rintro u ⟨q1, q2, q3⟩
    go_simp
    exact wrap_small (by omega) (by omega)
  simp only [Act.put]
  refine wpAnyH_take (i := 8) (v := .agg #[.int .i64 x, .slice sa m.length sc]) rfl (by kernel_rfl) (by kernel_rfl) (by kernel_rfl) (fun _ _ _ h => h) (Or.inl ⟨by rfl, ?_⟩) SW ?_
  · rintro u ⟨q1, q2, q3⟩
    go_simp
  simp only [Act.put]
  refine wpAnyH_take (i := 9) (v := .pointer (some ⟨b, 0, none⟩)) rfl (by kernel_rfl) (by kernel_rfl) (by kernel_rfl) (fun _ _ _ h => h) (Or.inl ⟨by rfl, ?_⟩) SW ?_
  · rintro u ⟨q1, q2, q3⟩
    go_simp
  simp only [Act.put]
  refine wpAnyH_take (i := 10) (v := .pointer (some ⟨b, 0, none⟩)) rfl (by kernel_rfl) (by kernel_rfl) (by kernel_rfl) (fun _ _ _ h => h) (Or.inl ⟨by rfl, ?_⟩) SW ?_
  · rintro u ⟨q1, q2, q3⟩
    go_simp
  simp only [Act.put]
  refine wpAnyH_ready (rs := [7]) (by kernel_rfl) (by simp) ?_
  refine AllReadyH.cons rfl (fun K hK => ?_) AllReadyH.nil
  rw [if_pos (by rfl)]
  go_simp
  refine (HS _ (Below.refl _ _).drew).mono ?_
  rintro e w1 ⟨rfl, rfl⟩
  refine hK.out _ _ SW (fun _ => ?_)
  clear hK K
  refine wpAnyH_ready (rs := [11]) (by kernel_rfl) (by simp) ?_
  refine AllReadyH.cons rfl (fun K hK => ?_) AllReadyH.nil
  rw [if_pos (by rfl)]
  go_simp
  refine hK.out _ _ SW (fun _ => ?_)
  clear hK K
  refine wpAnyH_ready (rs := [12]) (by kernel_rfl) (by simp) ?_
  refine AllReadyH.cons rfl (fun K hK => ?_) AllReadyH.nil
  rw [if_pos (by rfl)]
  go_simp
  refine hK.out _ _ ⟨k9, k0, k1⟩ (fun _ => ?_)
  clear hK K
  refine wpAnyH_done (by kernel_rfl) ?_ _
  go_wp2_with fail
  exact bodyPost_end (results_none rfl _ _ _) rfl ⟨rfl, HP.out.below (Below.refl _ _).drew, ((hb0.setCell _ _).setCell _ _).trans (But.of_below (Below.refl _ _).drew)⟩


end Go.Proofs.YtpfhegengmlkmacGreatDoor
/- Walks: Mark.had, Mark.later, firstOfBoth. -/
namespace Go.Proofs.YtpfhegengmlkmacGreatDoor
open Go.RowKit Go.BigFrame

set_option maxHeartbeats 400000 in
theorem had_any (s : ByteArray) (v : Int) (w : World) :
    Calls Tryz.prog 179 #[.agg #[.string s, .int .i64 v]] w fun e w' => e = .returned (.bool (decide (0 < v))) ∧ Below w.heap.size w w' := by
  go_enter Tryz.func179, Tryz.ntmps179
  go_wp2
  go_ret
  exact ⟨rfl, (Below.refl _ _).alloc (Nat.le_refl _) _⟩

set_option maxHeartbeats 400000 in
theorem later_any (x y : ByteArray × Int) (w : World) :
    Calls Tryz.prog 144 #[.agg #[.string x.1, .int .i64 x.2], .agg #[.string y.1, .int .i64 y.2]] w fun e w' => e = .returned (.agg #[.string (laterM x y).1, .int .i64 (laterM x y).2]) ∧ Below w.heap.size w w' := by
  by_cases h : x.2 < y.2
  · have H : Hid (laterM x y = y) := by unfold Hid laterM; rw [if_pos h]
    go_enter Tryz.func144, Tryz.ntmps144
    go_wp2
    rw [H.out]
    exact bodyPost_ret (v := .agg #[.string y.1, .int .i64 y.2]) (by simp [results, Tryz.results144, go_sem]) rfl ⟨rfl, (((Below.refl _ _).alloc (Nat.le_refl _) _).alloc (by simp) _).alloc (by simp; omega) _⟩
  · have H : Hid (laterM x y = x) := by unfold Hid laterM; rw [if_neg h]
    go_enter Tryz.func144, Tryz.ntmps144
    go_wp2
    rw [H.out]
    exact bodyPost_ret (v := .agg #[.string x.1, .int .i64 x.2]) (by simp [results, Tryz.results144, go_sem]) rfl ⟨rfl, (((Below.refl _ _).alloc (Nat.le_refl _) _).alloc (by simp) _).alloc (by simp; omega) _⟩

/-- The first mark of a row, and where it lies. -/
theorem Row.first {w : World} {a : Option Addr} {l : List (ByteArray × Int)} (h : Row w a l) (h0 : 0 < l.length) : ∃ b o, a = some ⟨b, o, none⟩ ∧ b < w.heap.size ∧ w.cell? ⟨b, o, none⟩ = some (.string l[0].1) ∧ w.cell? ⟨b, o + 1, none⟩ = some (.int .i64 l[0].2) := by
  obtain ⟨b, o, e, hb, c0, c1⟩ := h 0 h0
  exact ⟨b, o, e, hb, by simpa using c0, by simpa using c1⟩

theorem far_set (W : World) {h b i k : Nat} (v : Value) (hne : b ≠ h) : (W.setCell ⟨h, i, none⟩ v).cell? ⟨b, k, none⟩ = W.cell? ⟨b, k, none⟩ := World.cell?_of_block (Below.heap_setCell _ _ _ _ hne)

theorem far2 {W : World} {h b i j k : Nat} {u v : Value} (hne : b ≠ h) : ((W.setCell ⟨h, i, none⟩ u).setCell ⟨h, j, none⟩ v).cell? ⟨b, k, none⟩ = W.cell? ⟨b, k, none⟩ := (far_set _ _ hne).trans (far_set _ _ hne)

theorem far2d {W : World} {h b i j k : Nat} {u v : Value} (hne : b ≠ h) : ((W.setCell ⟨h, i, none⟩ u).setCell ⟨h, j, none⟩ v).drew.cell? ⟨b, k, none⟩ = W.cell? ⟨b, k, none⟩ := far2 hne
theorem far4d {W : World} {h h' b i j i' j' k : Nat} {u v u' v' : Value} (hne : b ≠ h) (hne' : b ≠ h') : ((((W.setCell ⟨h, i, none⟩ u).setCell ⟨h, j, none⟩ v).setCell ⟨h', i', none⟩ u').setCell ⟨h', j', none⟩ v').drew.cell? ⟨b, k, none⟩ = W.cell? ⟨b, k, none⟩ := (far2 hne').trans (far2 hne)

/-- The world in which two results lie in boxes of their own, named. -/
theorem two_boxes (w : World) (n : Nat) : ∃ W, ((w.alloc (.cells #[.string ⟨#[]⟩, .int .i64 0] 144)).alloc (.cells #[.string ⟨#[]⟩, .int .i64 0] 144)).drewN n = W ∧ ∃ x0 x1 y0 y1 : Value,
    W.cell? ⟨w.heap.size, 0, none⟩ = some x0 ∧ W.cell? ⟨w.heap.size, 1, none⟩ = some x1 ∧ W.cell? ⟨w.heap.size + 1, 0, none⟩ = some y0 ∧ W.cell? ⟨w.heap.size + 1, 1, none⟩ = some y1 ∧
    W.frozen? ⟨w.heap.size, 0, none⟩ = false ∧ W.frozen? ⟨w.heap.size, 1, none⟩ = false ∧ W.frozen? ⟨w.heap.size + 1, 0, none⟩ = false ∧ W.frozen? ⟨w.heap.size + 1, 1, none⟩ = false ∧ Below w.heap.size w W ∧ W.heap.size = w.heap.size + 2 :=
  ⟨_, rfl, _, _, _, _, by simp [go_sem]; rfl, by simp [go_sem]; rfl, by simp [go_sem]; rfl, by simp [go_sem]; rfl, by simp [go_sem], by simp [go_sem], by simp [go_sem], by simp [go_sem], below_drewN (((Below.refl _ _).alloc (Nat.le_refl _) _).alloc (by simp) _) n, by simp⟩

set_option maxHeartbeats 800000 in
/-- Only the first stamp has marks left. -/
theorem first_a0 (aa ab : Option Addr) (ca cb : Nat) (la lb : List (ByteArray × Int)) (w : World) (ha : Row w aa la) (h0 : 0 < la.length) (h1 : lb.length = 0) :
    Calls Tryz.prog 178 #[.slice aa la.length ca, .slice ab lb.length cb] w fun e w' => e = .returned (.tuple #[.agg #[.string la[0].1, .int .i64 la[0].2], .agg #[.string la[0].1, .int .i64 0]]) ∧ Below w.heap.size w w' := by
  obtain ⟨b, o, rfl, hblt, c0, c1⟩ := ha.first h0
  have ne1 : b ≠ w.heap.size := by omega
  have ne2 : b ≠ w.heap.size + 1 := by omega
  have g : ((lb.length : Int) == 0) = true := by simp [h1]
  clear h1
  go_enter Tryz.func178, Tryz.ntmps178
  go_wp2_with fail
  go_quiet (fail)
  go_wp2_with fail
  obtain ⟨W, hW, K⟩ := two_boxes w nq
  rw [hW]
  clear hW
  obtain ⟨x0, x1, y0, y1, d0, d1, e0, e1, f0, f1, f2, f3, hbel, hsz⟩ := K
  have c0 := cell_on hbel hblt c0
  have c1 := cell_on hbel hblt c1
  go_region_held3 (fun w' => w'.cell? ⟨b, o, none⟩ = some (.string la[0].1) ∧ w'.cell? ⟨b, o + 1, none⟩ = some (.int .i64 la[0].2)) (simp only [World.cell?_drew, far_set _ _ ne1, far_set _ _ ne2, c0, c1, and_self]) (fail)
  all_goals go_wp2_with fail
  all_goals exact bodyPost_ret (v := .tuple #[.agg #[.string la[0].1, .int .i64 la[0].2], .agg #[.string la[0].1, .int .i64 0]]) (by simp [results, Tryz.results178, go_sem, d0, d1, e0, e1]) rfl ⟨rfl, by repeat (first | exact hbel | apply Below.drew | apply below_drewN | refine Below.setCell ?_ (by simp) _)⟩

set_option maxHeartbeats 800000 in
/-- The first source of the first stamp comes first. -/
theorem first_lt (aa ab : Option Addr) (ca cb : Nat) (la lb : List (ByteArray × Int)) (w : World) (ha : Row w aa la) (hb : Row w ab lb) (h0 : 0 < la.length) (h0' : 0 < lb.length) (h1 : Op.bytesLess la[0].1.toList lb[0].1.toList = true) :
    Calls Tryz.prog 178 #[.slice aa la.length ca, .slice ab lb.length cb] w fun e w' => e = .returned (.tuple #[.agg #[.string la[0].1, .int .i64 la[0].2], .agg #[.string la[0].1, .int .i64 0]]) ∧ Below w.heap.size w w' := by
  obtain ⟨b, o, rfl, hblt, c0, c1⟩ := ha.first h0
  have ne1 : b ≠ w.heap.size := by omega
  have ne2 : b ≠ w.heap.size + 1 := by omega
  obtain ⟨b', o', rfl, hblt', k0, k1⟩ := hb.first h0'
  have ne3 : b' ≠ w.heap.size := by omega
  have ne4 : b' ≠ w.heap.size + 1 := by omega
  have g : ((lb.length : Int) == 0) = false := beq_eq_false_iff_ne.2 (by omega)
  have g1 : decide (0 < la.length) = true := by simpa using h0
  go_enter Tryz.func178, Tryz.ntmps178
  go_wp2_with fail
  go_quiet (fail)
  go_wp2_with fail
  obtain ⟨W, hW, K⟩ := two_boxes w nq
  rw [hW]
  clear hW
  obtain ⟨x0, x1, y0, y1, d0, d1, e0, e1, f0, f1, f2, f3, hbel, hsz⟩ := K
  have c0 := cell_on hbel hblt c0
  have c1 := cell_on hbel hblt c1
  have k0 := cell_on hbel hblt' k0
  have k1 := cell_on hbel hblt' k1
  go_region_held3 (fun w' => w'.cell? ⟨b, o, none⟩ = some (.string la[0].1) ∧ w'.cell? ⟨b, o + 1, none⟩ = some (.int .i64 la[0].2) ∧ w'.cell? ⟨b', o', none⟩ = some (.string lb[0].1) ∧ w'.cell? ⟨b', o' + 1, none⟩ = some (.int .i64 lb[0].2)) (simp only [World.cell?_drew, far_set _ _ ne1, far_set _ _ ne2, c0, c1, far_set _ _ ne3, far_set _ _ ne4, k0, k1, and_self]) (fail)
  all_goals go_wp2_with fail
  all_goals exact bodyPost_ret (v := .tuple #[.agg #[.string la[0].1, .int .i64 la[0].2], .agg #[.string la[0].1, .int .i64 0]]) (by simp [results, Tryz.results178, go_sem, d0, d1, e0, e1]) rfl ⟨rfl, by repeat (first | exact hbel | apply Below.drew | apply below_drewN | refine Below.setCell ?_ (by simp) _)⟩

set_option maxHeartbeats 800000 in
/-- Only the second stamp has marks left. -/
theorem first_b0 (aa ab : Option Addr) (ca cb : Nat) (la lb : List (ByteArray × Int)) (w : World) (hb : Row w ab lb) (h0' : 0 < lb.length) (h1 : la.length = 0) :
    Calls Tryz.prog 178 #[.slice aa la.length ca, .slice ab lb.length cb] w fun e w' => e = .returned (.tuple #[.agg #[.string lb[0].1, .int .i64 0], .agg #[.string lb[0].1, .int .i64 lb[0].2]]) ∧ Below w.heap.size w w' := by
  obtain ⟨b', o', rfl, hblt', k0, k1⟩ := hb.first h0'
  have ne3 : b' ≠ w.heap.size := by omega
  have ne4 : b' ≠ w.heap.size + 1 := by omega
  have g : ((lb.length : Int) == 0) = false := beq_eq_false_iff_ne.2 (by omega)
  have g1 : decide (0 < la.length) = false := by simp [h1]
  have g2 : ((la.length : Int) == 0) = true := by simp [h1]
  clear h1
  go_enter Tryz.func178, Tryz.ntmps178
  go_wp2_with fail
  go_quiet (fail)
  go_wp2_with fail
  go_quiet (fail)
  go_wp2_with fail
  obtain ⟨W, hW, K⟩ := two_boxes w _
  rw [hW]
  clear hW
  obtain ⟨x0, x1, y0, y1, d0, d1, e0, e1, f0, f1, f2, f3, hbel, hsz⟩ := K
  have k0 := cell_on hbel hblt' k0
  have k1 := cell_on hbel hblt' k1
  go_region_held3 (fun w' => w'.cell? ⟨b', o', none⟩ = some (.string lb[0].1) ∧ w'.cell? ⟨b', o' + 1, none⟩ = some (.int .i64 lb[0].2)) (simp only [World.cell?_drew, World.cell?_drewN, far_set _ _ ne3, far_set _ _ ne4, k0, k1, and_self]) (fail)
  all_goals go_wp2_with fail
  all_goals exact bodyPost_ret (v := .tuple #[.agg #[.string lb[0].1, .int .i64 0], .agg #[.string lb[0].1, .int .i64 lb[0].2]]) (by simp [results, Tryz.results178, go_sem, d0, d1, e0, e1]) rfl ⟨rfl, by repeat (first | exact hbel | apply Below.drew | apply below_drewN | refine Below.setCell ?_ (by simp) _)⟩

set_option maxHeartbeats 800000 in
/-- The first source of the second stamp comes first. -/
theorem first_gt (aa ab : Option Addr) (ca cb : Nat) (la lb : List (ByteArray × Int)) (w : World) (ha : Row w aa la) (hb : Row w ab lb) (h0 : 0 < la.length) (h0' : 0 < lb.length) (h1 : Op.bytesLess la[0].1.toList lb[0].1.toList = false) (h2 : Op.bytesLess lb[0].1.toList la[0].1.toList = true) :
    Calls Tryz.prog 178 #[.slice aa la.length ca, .slice ab lb.length cb] w fun e w' => e = .returned (.tuple #[.agg #[.string lb[0].1, .int .i64 0], .agg #[.string lb[0].1, .int .i64 lb[0].2]]) ∧ Below w.heap.size w w' := by
  obtain ⟨b, o, rfl, hblt, c0, c1⟩ := ha.first h0
  have ne1 : b ≠ w.heap.size := by omega
  have ne2 : b ≠ w.heap.size + 1 := by omega
  obtain ⟨b', o', rfl, hblt', k0, k1⟩ := hb.first h0'
  have ne3 : b' ≠ w.heap.size := by omega
  have ne4 : b' ≠ w.heap.size + 1 := by omega
  have g : ((lb.length : Int) == 0) = false := beq_eq_false_iff_ne.2 (by omega)
  have g1 : decide (0 < la.length) = true := by simpa using h0
  have g2 : ((la.length : Int) == 0) = false := beq_eq_false_iff_ne.2 (by omega)
  go_enter Tryz.func178, Tryz.ntmps178
  go_wp2_with fail
  go_quiet (fail)
  go_wp2_with fail
  go_quiet (fail)
  go_wp2_with fail
  obtain ⟨W, hW, K⟩ := two_boxes w _
  rw [hW]
  clear hW
  obtain ⟨x0, x1, y0, y1, d0, d1, e0, e1, f0, f1, f2, f3, hbel, hsz⟩ := K
  have c0 := cell_on hbel hblt c0
  have c1 := cell_on hbel hblt c1
  have k0 := cell_on hbel hblt' k0
  have k1 := cell_on hbel hblt' k1
  go_region_held3 (fun w' => w'.cell? ⟨b, o, none⟩ = some (.string la[0].1) ∧ w'.cell? ⟨b, o + 1, none⟩ = some (.int .i64 la[0].2) ∧ w'.cell? ⟨b', o', none⟩ = some (.string lb[0].1) ∧ w'.cell? ⟨b', o' + 1, none⟩ = some (.int .i64 lb[0].2)) (simp only [World.cell?_drew, World.cell?_drewN, far_set _ _ ne1, far_set _ _ ne2, c0, c1, far_set _ _ ne3, far_set _ _ ne4, k0, k1, and_self]) (fail)
  all_goals go_wp2_with fail
  all_goals exact bodyPost_ret (v := .tuple #[.agg #[.string lb[0].1, .int .i64 0], .agg #[.string lb[0].1, .int .i64 lb[0].2]]) (by simp [results, Tryz.results178, go_sem, d0, d1, e0, e1]) rfl ⟨rfl, by repeat (first | exact hbel | apply Below.drew | apply below_drewN | refine Below.setCell ?_ (by simp) _)⟩

set_option maxHeartbeats 800000 in
/-- Both have the source. -/
theorem first_eq (aa ab : Option Addr) (ca cb : Nat) (la lb : List (ByteArray × Int)) (w : World) (ha : Row w aa la) (hb : Row w ab lb) (h0 : 0 < la.length) (h0' : 0 < lb.length) (h1 : Op.bytesLess la[0].1.toList lb[0].1.toList = false) (h2 : Op.bytesLess lb[0].1.toList la[0].1.toList = false) :
    Calls Tryz.prog 178 #[.slice aa la.length ca, .slice ab lb.length cb] w fun e w' => e = .returned (.tuple #[.agg #[.string la[0].1, .int .i64 la[0].2], .agg #[.string lb[0].1, .int .i64 lb[0].2]]) ∧ Below w.heap.size w w' := by
  obtain ⟨b, o, rfl, hblt, c0, c1⟩ := ha.first h0
  have ne1 : b ≠ w.heap.size := by omega
  have ne2 : b ≠ w.heap.size + 1 := by omega
  obtain ⟨b', o', rfl, hblt', k0, k1⟩ := hb.first h0'
  have ne3 : b' ≠ w.heap.size := by omega
  have ne4 : b' ≠ w.heap.size + 1 := by omega
  have g : ((lb.length : Int) == 0) = false := beq_eq_false_iff_ne.2 (by omega)
  have g1 : decide (0 < la.length) = true := by simpa using h0
  have g2 : ((la.length : Int) == 0) = false := beq_eq_false_iff_ne.2 (by omega)
  go_enter Tryz.func178, Tryz.ntmps178
  go_wp2_with fail
  go_quiet (fail)
  go_wp2_with fail
  go_quiet (fail)
  go_wp2_with fail
  obtain ⟨W, hW, K⟩ := two_boxes w _
  rw [hW]
  clear hW
  obtain ⟨x0, x1, y0, y1, d0, d1, e0, e1, f0, f1, f2, f3, hbel, hsz⟩ := K
  have c0 := cell_on hbel hblt c0
  have c1 := cell_on hbel hblt c1
  have k0 := cell_on hbel hblt' k0
  have k1 := cell_on hbel hblt' k1
  go_region_held3 (fun w' => w'.cell? ⟨b, o, none⟩ = some (.string la[0].1) ∧ w'.cell? ⟨b, o + 1, none⟩ = some (.int .i64 la[0].2) ∧ w'.cell? ⟨b', o', none⟩ = some (.string lb[0].1) ∧ w'.cell? ⟨b', o' + 1, none⟩ = some (.int .i64 lb[0].2)) (simp only [World.cell?_drew, World.cell?_drewN, far_set _ _ ne1, far_set _ _ ne2, c0, c1, far_set _ _ ne3, far_set _ _ ne4, k0, k1, and_self]) (fail)
  all_goals go_wp2_with fail
  all_goals exact bodyPost_ret (v := .tuple #[.agg #[.string la[0].1, .int .i64 la[0].2], .agg #[.string lb[0].1, .int .i64 lb[0].2]]) (by simp [results, Tryz.results178, go_sem, d0, d1, e0, e1]) rfl ⟨rfl, by repeat (first | exact hbel | apply Below.drew | apply below_drewN | refine Below.setCell ?_ (by simp) _)⟩


/-- What firstOfBoth answers of two rests, not both empty. -/
theorem first_any (aa ab : Option Addr) (ca cb : Nat) (la lb : List (ByteArray × Int)) (w : World) (ha : Row w aa la) (hb : Row w ab lb) (p : (ByteArray × Int) × (ByteArray × Int)) (hp : headP la lb = some p) :
    Calls Tryz.prog 178 #[.slice aa la.length ca, .slice ab lb.length cb] w fun e w' => e = .returned (.tuple #[.agg #[.string p.1.1, .int .i64 p.1.2], .agg #[.string p.2.1, .int .i64 p.2.2]]) ∧ Below w.heap.size w w' := by
  cases la with
  | nil =>
    cases lb with
    | nil => simp [headP] at hp
    | cons y lb =>
      simp only [headP, Option.some.injEq] at hp
      subst hp
      exact first_b0 aa ab ca cb [] (y :: lb) w hb (by simp) rfl
  | cons x la =>
    cases lb with
    | nil =>
      simp only [headP, Option.some.injEq] at hp
      subst hp
      exact first_a0 aa ab ca cb (x :: la) [] w ha (by simp) rfl
    | cons y lb =>
      cases h1 : Op.bytesLess x.1.toList y.1.toList
      · cases h2 : Op.bytesLess y.1.toList x.1.toList
        · simp [headP, h1, h2] at hp
          subst hp
          exact first_eq aa ab ca cb (x :: la) (y :: lb) w ha hb (by simp) (by simp) h1 h2
        · simp [headP, h1, h2] at hp
          subst hp
          exact first_gt aa ab ca cb (x :: la) (y :: lb) w ha hb (by simp) (by simp) h1 h2
      · simp [headP, h1] at hp
        subst hp
        exact first_lt aa ab ca cb (x :: la) (y :: lb) w ha hb (by simp) (by simp) h1

end Go.Proofs.YtpfhegengmlkmacGreatDoor
/- The iterator sideBySide: what it yields, for every loop body that keeps what it reads. -/
namespace Go.Proofs.YtpfhegengmlkmacGreatDoor
open Go.RowKit Go.Shelf Go.WideShapes
attribute [local go_sem] Oper.semAt_some

/-- All cells of blocks ahead of 'lo', and those of small blocks from 'hi' on, are as they were. -/
structure KS (lo hi : Nat) (W W' : World) : Prop where
  size : W.heap.size ≤ W'.heap.size
  block : ∀ k o, (k < lo ∨ (hi ≤ k ∧ W.cell? ⟨k, 3, none⟩ = none)) → W.heap[k]? = some o → o.isCells = true → W'.heap[k]? = some o
theorem KS.refl (lo hi : Nat) (W : World) : KS lo hi W W := ⟨Nat.le_refl _, fun _ _ _ h _ => h⟩
theorem KS.trans {lo hi : Nat} {A B C : World} (h : KS lo hi A B) (k : KS lo hi B C) : KS lo hi A C :=
  ⟨Nat.le_trans h.size k.size, fun i o hn hi ho => by
    have h1 := h.block i o hn hi ho
    refine k.block i o (hn.imp id fun q => ⟨q.1, ?_⟩) h1 ho
    rw [World.cell?_of_block (w := A) (w' := B) (a := ⟨i, 3, none⟩) (by rw [h1, hi])]; exact q.2⟩
theorem KS.of_below {lo hi : Nat} {A B : World} (h : Below A.heap.size A B) : KS lo hi A B := ⟨h.size, fun k o _ hk _ => by
  rw [h.block k (Array.getElem?_eq_some_iff.1 hk).1]; exact hk⟩
theorem KS.put {lo hi : Nat} (W : World) (l : Nat) (o o' : Obj) (h : W.heap[l]? = some o) (ho : o.isCells = false) : KS lo hi W (W.putObj l o') := ⟨by simp, fun k o1 _ hk h1 => by
  have hne : k ≠ l := fun e => by subst e; rw [h] at hk; cases hk; rw [ho] at h1; cases h1
  rw [World.putObj_heap_other (fun e => hne e)]; exact hk⟩
theorem cell_obj {A : World} {b o : Nat} {v : Value} (h : A.cell? ⟨b, o, none⟩ = some v) : ∃ ob, A.heap[b]? = some ob ∧ ob.isCells = true := by
  unfold World.cell? at h
  cases hh : A.heap[b]? with
  | none => simp [hh] at h
  | some ob =>
    refine ⟨ob, rfl, ?_⟩
    cases ob <;> simp_all [Obj.isCells]
theorem KS.cell {lo hi : Nat} {A B : World} (h : KS lo hi A B) {b o : Nat} {v : Value} (hn : b < lo ∨ (hi ≤ b ∧ A.cell? ⟨b, 3, none⟩ = none)) (hc : A.cell? ⟨b, o, none⟩ = some v) : B.cell? ⟨b, o, none⟩ = some v := by
  obtain ⟨ob, h1, h2⟩ := cell_obj hc
  have h3 := h.block b ob hn h1 h2
  rw [World.cell?_of_block (w := A) (w' := B) (a := ⟨b, o, none⟩) (by rw [h3, h1])]; exact hc
theorem KS.row {lo hi : Nat} {A B : World} (h : KS lo hi A B) {a : Option Addr} {l : List (ByteArray × Int)} (hr : ∀ k, (hk : k < l.length) → ∃ b o, a = some ⟨b, o, none⟩ ∧ b < lo ∧ A.cell? ⟨b, o + k * 2, none⟩ = some (.string l[k].1) ∧ A.cell? ⟨b, o + k * 2 + 1, none⟩ = some (.int .i64 l[k].2)) (hB : lo ≤ B.heap.size) : Row B a l := fun k hk => by
  obtain ⟨b, o, ha, hb, c0, c1⟩ := hr k hk
  exact ⟨b, o, ha, by omega, h.cell (.inl hb) c0, h.cell (.inl hb) c1⟩

/-- A row of marks in blocks ahead of 'lo'. -/
def RowL (lo : Nat) (w : World) (a : Option Addr) (l : List (ByteArray × Int)) : Prop :=
  ∀ k, (hk : k < l.length) → ∃ b o, a = some ⟨b, o, none⟩ ∧ b < lo ∧ w.cell? ⟨b, o + k * 2, none⟩ = some (.string l[k].1) ∧ w.cell? ⟨b, o + k * 2 + 1, none⟩ = some (.int .i64 l[k].2)
theorem Row.low {w : World} {a : Option Addr} {l : List (ByteArray × Int)} (h : Row w a l) : RowL w.heap.size w a l := h
theorem RowL.below {lo : Nat} {w w' : World} {a : Option Addr} {l : List (ByteArray × Int)} (h : RowL lo w a l) (hb : Below lo w w') : RowL lo w' a l := fun k hk => by
  obtain ⟨b, o, ha, hlt, c0, c1⟩ := h k hk
  exact ⟨b, o, ha, hlt, by rw [hb.cell hlt]; exact c0, by rw [hb.cell hlt]; exact c1⟩

theorem Tryz.elemM : Tryz.prog.underlying 34 = some (.slice (Tryz.prog.elem 34)) := by kernel_rfl
theorem Tryz.sizeM (u : World) : (sizeOf (Tryz.prog.elem 34)).run Tryz.prog u = .ok 2 u := by kernel_rfl

/-- a[i:]: the rest of a row. -/
theorem slice_rest (aa : Option Addr) (cap i : Nat) (l : List (ByteArray × Int)) (hi : i ≤ l.length) (hc : l.length ≤ cap) : ∃ aa' : Option Addr,
    (∀ u : World, (Instr.slice 34 (.slice aa l.length cap) (some (.int .i64 (i : Int))) none none).run Tryz.prog u = .ok (.slice aa' (l.length - i) (cap - i)) u) ∧ (∀ w, Row w aa l → Row w aa' (l.drop i)) := by
  refine ⟨if cap = i then aa else aa.map (·.add (i * 2)), fun u => ?_, fun w h k hk => ?_⟩
  · rw [run_slice_l u 34 aa l.length cap Tryz.elemM .i64 (i : Int) (by omega) (by omega), Tryz.sizeM]
    simp [Result.andThen, sliced]
  · rw [List.length_drop] at hk
    obtain ⟨b, o, ha, hb, c0, c1⟩ := h (i + k) (by omega)
    refine ⟨b, o + i * 2, ?_, hb, ?_, ?_⟩
    · rw [if_neg (by omega), ha]
      simp [add_plain]
    · rw [List.getElem_drop]
      have e : o + i * 2 + k * 2 = o + (i + k) * 2 := by omega
      rw [e]; exact c0
    · rw [List.getElem_drop]
      have e : o + i * 2 + k * 2 + 1 = o + (i + k) * 2 + 1 := by omega
      rw [e]; exact c1

theorem first_len (aa ab : Option Addr) (ca cb na nb : Nat) (la lb : List (ByteArray × Int)) (hna : na = la.length) (hnb : nb = lb.length) (w : World) (ha : Row w aa la) (hb : Row w ab lb) (p : (ByteArray × Int) × (ByteArray × Int)) (hp : headP la lb = some p) :
    Calls Tryz.prog 178 #[.slice aa na ca, .slice ab nb cb] w fun e w' => e = .returned (.tuple #[.agg #[.string p.1.1, .int .i64 p.1.2], .agg #[.string p.2.1, .int .i64 p.2.2]]) ∧ Below w.heap.size w w' := by
  subst hna hnb
  exact first_any aa ab ca cb la lb w ha hb p hp

/-- A pair of marks with names of a bearable size. -/
structure PM where
  p : (ByteArray × Int) × (ByteArray × Int)
  h : p.1.1.size ≤ 1048576 ∧ p.2.1.size ≤ 1048576

theorem headP_size {a b : List (ByteArray × Int)} {p : (ByteArray × Int) × (ByteArray × Int)} (ha : ∀ m ∈ a, m.1.size ≤ 1048576) (hb : ∀ m ∈ b, m.1.size ≤ 1048576) (hp : headP a b = some p) : p.1.1.size ≤ 1048576 ∧ p.2.1.size ≤ 1048576 := by
  cases a with
  | nil =>
    cases b with
    | nil => simp [headP] at hp
    | cons y b => simp only [headP, Option.some.injEq] at hp; subst hp; exact ⟨hb y (by simp), hb y (by simp)⟩
  | cons x a =>
    cases b with
    | nil => simp only [headP, Option.some.injEq] at hp; subst hp; exact ⟨ha x (by simp), ha x (by simp)⟩
    | cons y b =>
      have h1 := ha x (by simp)
      have h2 := hb y (by simp)
      simp only [headP] at hp
      split at hp
      · simp only [Option.some.injEq] at hp; subst hp; exact ⟨h1, h1⟩
      · split at hp
        · simp only [Option.some.injEq] at hp; subst hp; exact ⟨h2, h2⟩
        · simp only [Option.some.injEq] at hp; subst hp; exact ⟨h1, h2⟩
theorem headP_pos {a b : List (ByteArray × Int)} {p : (ByteArray × Int) × (ByteArray × Int)} (ha : ∀ m ∈ a, 1 ≤ m.2) (hb : ∀ m ∈ b, 1 ≤ m.2) (hp : headP a b = some p) : (0 < p.1.2 → 0 < a.length) ∧ (0 < p.2.2 → 0 < b.length) ∧ (0 < p.1.2 ∨ 0 < p.2.2) := by
  cases a with
  | nil =>
    cases b with
    | nil => simp [headP] at hp
    | cons y b =>
      have h2 := hb y (by simp)
      simp only [headP, Option.some.injEq] at hp; subst hp; exact ⟨fun h => by simp at h, fun _ => by simp, .inr (by simp only; omega)⟩
  | cons x a =>
    have h1 := ha x (by simp)
    cases b with
    | nil => simp only [headP, Option.some.injEq] at hp; subst hp; exact ⟨fun _ => by simp, fun h => by simp at h, .inl (by simp only; omega)⟩
    | cons y b =>
      have h2 := hb y (by simp)
      refine ⟨fun _ => by simp, fun _ => by simp, ?_⟩
      simp only [headP] at hp
      split at hp
      · simp only [Option.some.injEq] at hp; subst hp; exact .inl (by simp only; omega)
      · split at hp
        · simp only [Option.some.injEq] at hp; subst hp; exact .inr (by simp only; omega)
        · simp only [Option.some.injEq] at hp; subst hp; exact .inl (by simp only; omega)
theorem headP_some {a b : List (ByteArray × Int)} (h : 0 < a.length + b.length) : ∃ p, headP a b = some p := by
  cases a with
  | nil =>
    cases b with
    | nil => simp at h
    | cons y b => exact ⟨_, rfl⟩
  | cons x a =>
    cases b with
    | nil => exact ⟨_, rfl⟩
    | cons y b =>
      simp only [headP]
      split
      · exact ⟨_, rfl⟩
      · split <;> exact ⟨_, rfl⟩

theorem set2 {W : World} {h : Nat} {a b x y : Value} (h0 : W.cell? ⟨h, 0, none⟩ = some x) (h1 : W.cell? ⟨h, 1, none⟩ = some y) : ((W.setCell ⟨h, 0, none⟩ a).setCell ⟨h, 1, none⟩ b).cell? ⟨h, 0, none⟩ = some a ∧ ((W.setCell ⟨h, 0, none⟩ a).setCell ⟨h, 1, none⟩ b).cell? ⟨h, 1, none⟩ = some b := by
  simp [go_sem, h0, h1]
/-- Two boxes that were laid ahead of a call, and filled behind it. -/
theorem box4 {wr w1 : World} {B : Nat} {t : TypeId} {p q p' q' : Value} (hB : wr.heap.size + 1 < B) (hb1 : Below B ((wr.alloc (.cells #[p, q] t)).alloc (.cells #[p', q'] t)).drew w1) : w1.cell? ⟨wr.heap.size, 0, none⟩ = some p ∧ w1.cell? ⟨wr.heap.size, 1, none⟩ = some q := by
  refine ⟨(hb1.cell (p := ⟨wr.heap.size, 0, none⟩) (by simp only; omega)).trans ?_, (hb1.cell (p := ⟨wr.heap.size, 1, none⟩) (by simp only; omega)).trans ?_⟩
  · simp [go_sem]
  · simp [go_sem]
theorem box4a {wr w1 : World} {B : Nat} {t : TypeId} {p q p' q' a b c d : Value} (hB : wr.heap.size + 1 < B) (hb1 : Below B ((wr.alloc (.cells #[p, q] t)).alloc (.cells #[p', q'] t)).drew w1) :
    ((((w1.setCell ⟨wr.heap.size, 0, none⟩ a).setCell ⟨wr.heap.size, 1, none⟩ b).setCell ⟨wr.heap.size + 1, 0, none⟩ c).setCell ⟨wr.heap.size + 1, 1, none⟩ d).cell? ⟨wr.heap.size, 0, none⟩ = some a ∧
    ((((w1.setCell ⟨wr.heap.size, 0, none⟩ a).setCell ⟨wr.heap.size, 1, none⟩ b).setCell ⟨wr.heap.size + 1, 0, none⟩ c).setCell ⟨wr.heap.size + 1, 1, none⟩ d).cell? ⟨wr.heap.size, 1, none⟩ = some b := by
  obtain ⟨h0, h1⟩ := box4 hB hb1
  have hs := set2 (a := a) (b := b) h0 h1
  exact ⟨(far2 (by omega)).trans hs.1, (far2 (by omega)).trans hs.2⟩
theorem box4b {wr w1 : World} {B : Nat} {t : TypeId} {p q p' q' a b c d : Value} (hB : wr.heap.size + 1 < B) (hb1 : Below B ((wr.alloc (.cells #[p, q] t)).alloc (.cells #[p', q'] t)).drew w1) :
    ((((w1.setCell ⟨wr.heap.size + 1, 0, none⟩ a).setCell ⟨wr.heap.size + 1, 1, none⟩ b).setCell ⟨wr.heap.size, 0, none⟩ c).setCell ⟨wr.heap.size, 1, none⟩ d).cell? ⟨wr.heap.size, 0, none⟩ = some c ∧
    ((((w1.setCell ⟨wr.heap.size + 1, 0, none⟩ a).setCell ⟨wr.heap.size + 1, 1, none⟩ b).setCell ⟨wr.heap.size, 0, none⟩ c).setCell ⟨wr.heap.size, 1, none⟩ d).cell? ⟨wr.heap.size, 1, none⟩ = some d := by
  obtain ⟨h0, h1⟩ := box4 hB hb1
  exact set2 ((far2 (by omega)).trans h0) ((far2 (by omega)).trans h1)

end Go.Proofs.YtpfhegengmlkmacGreatDoor
/- The iterator sideBySide, walked. -/
namespace Go.Proofs.YtpfhegengmlkmacGreatDoor
open Go.RowKit Go.Shelf Go.BigFrame
attribute [local go_sem] Oper.semAt_some

/-- The two marks that are handed to the loop's body. -/
def encP (x : PM) : Array Value := #[.agg #[.string x.p.1.1, .int .i64 x.p.1.2], .agg #[.string x.p.2.1, .int .i64 x.p.2.2]]

theorem grown_of_below {A B : World} (h : Below A.heap.size A B) : A.grownBy B none := ⟨h.os, h.tape, h.output, h.size, fun k hk _ => h.block k hk⟩

theorem side_len {a b a' b' : List (ByteArray × Int)} {pre : List PM} {n f : Nat} {p : (ByteArray × Int) × (ByteArray × Int)} (h : pairsF n a b = pre.map PM.p ++ pairsF f a' b') (hp : headP a' b' = some p) (hf : 0 < f) : pre.length < n := by
  have h1 := pairs_length n a b
  rw [h] at h1
  obtain ⟨g, rfl⟩ : ∃ g, f = g + 1 := ⟨f - 1, by omega⟩
  simp only [pairsF, hp, List.length_append, List.length_map, List.length_cons] at h1
  omega

theorem side_pre {a b a' b' : List (ByteArray × Int)} {pre : List PM} {n f : Nat} {x : PM} (h : pairsF n a b = pre.map PM.p ++ pairsF f a' b') (hp : headP a' b' = some x.p) (hf : 0 < f) : (pre ++ [x]).map PM.p <+: pairsF n a b := by
  obtain ⟨g, rfl⟩ : ∃ g, f = g + 1 := ⟨f - 1, by omega⟩
  rw [h]
  simp only [pairsF, hp, List.map_append, List.map_cons, List.map_nil]
  refine ⟨pairsF g (if 0 < x.p.1.2 then a'.tail else a') (if 0 < x.p.2.2 then b'.tail else b'), ?_⟩
  simp

theorem side_next {a b : List (ByteArray × Int)} {pre : List PM} {n f i j : Nat} {x : PM} (h : pairsF n a b = pre.map PM.p ++ pairsF f (a.drop i) (b.drop j)) (hp : headP (a.drop i) (b.drop j) = some x.p) (hf : 0 < f) :
    pairsF n a b = (pre ++ [x]).map PM.p ++ pairsF (f - 1) (if 0 < x.p.1.2 then a.drop (i + 1) else a.drop i) (if 0 < x.p.2.2 then b.drop (j + 1) else b.drop j) := by
  obtain ⟨g, rfl⟩ : ∃ g, f = g + 1 := ⟨f - 1, by omega⟩
  rw [h]
  simp only [pairsF, hp, List.map_append, List.map_cons, List.map_nil, List.tail_drop]
  simp

set_option maxRecDepth 100000 in
set_option maxHeartbeats 6000000 in
theorem side1_in (n : Nat) (l Ba Bb lo hi : Nat) (aa ab : Option Addr) (ca cb : Nat) (la lb : List (ByteArray × Int)) (hca : la.length ≤ ca) (hcb : lb.length ≤ cb) (hma : la.length ≤ 12) (hmb : lb.length ≤ 12) (hsa : ∀ m ∈ la, m.1.size ≤ 1048576) (hsb : ∀ m ∈ lb, m.1.size ≤ 1048576) (hva : ∀ m ∈ la, 1 ≤ m.2) (hvb : ∀ m ∈ lb, 1 ≤ m.2)
    (hBa : hi ≤ Ba) (hBb : hi ≤ Bb) (J Jx : List PM → World → Prop) (W : World) (hWl : lo ≤ W.heap.size) (hJ : AbidesFrom W.heap.size J)
    (hY : ∀ pre x W, J pre W → pre.length < la.length + lb.length → YieldAt Fence.wide (n - 1) Tryz.prog l (encP x) W fun e W' =>
      (e = .returned (.bool true) ∧ J (pre ++ [x]) W' ∧ KS lo hi W W') ∨ (e = .returned (.bool false) ∧ Jx (pre ++ [x]) W'))
    (cA : W.cell? ⟨Ba, 0, none⟩ = some (.slice aa la.length ca)) (cB : W.cell? ⟨Bb, 0, none⟩ = some (.slice ab lb.length cb)) (nA3 : W.cell? ⟨Ba, 3, none⟩ = none) (nB3 : W.cell? ⟨Bb, 3, none⟩ = none) (hra : RowL lo W aa la) (hrb : RowL lo W ab lb) (h0 : J [] W) :
    CallsIn Fence.wide n Tryz.prog 177 #[.func (.yield l) #[] #[], .pointer (some ⟨Ba, 0, none⟩), .pointer (some ⟨Bb, 0, none⟩)] W fun e W' => (∃ v, e = .returned v) ∧
      ((∃ ys, ys.map PM.p = pairsF (la.length + lb.length) la lb ∧ J ys W') ∨ (∃ pre, pre.map PM.p <+: pairsF (la.length + lb.length) la lb ∧ Jx pre W')) := by
  refine callsIn_of_wp Tryz.func177 rfl trivial ?_ rfl
  simp only [Tryz.ntmps177, List.size_toArray, List.length_cons, List.length_nil, Nat.reduceAdd, Nat.reduceSub, Array.replicate_succ, Array.replicate_zero, List.push_toArray, List.append_toArray, List.nil_append, List.cons_append]
  gi_wp2
  gi_loopw [4, 5] (fun i j wr => ∃ (iN jN f : Nat) (pre : List PM), iN ≤ la.length ∧ jN ≤ lb.length ∧ i = .int .i64 iN ∧ j = .int .i64 jN ∧ Hid (pairsF (la.length + lb.length) la lb = pre.map PM.p ++ pairsF f (la.drop iN) (lb.drop jN)) ∧ (la.length - iN) + (lb.length - jN) ≤ f ∧ J pre wr ∧ KS lo hi W wr)
    (fun i j _ => (la.length - (intOf i).toNat) + (lb.length - (intOf j).toNat))
  case atStart => exact ⟨0, 0, la.length + lb.length, [], Nat.zero_le _, Nat.zero_le _, rfl, rfl, rfl, by omega, h0, KS.refl _ _ _⟩
  case round =>
    obtain ⟨iN, jN, f, pre, hiN, hjN, rfl, rfl, HP, hf, hJs, hks⟩ := hrel
    have cA' := hks.cell (.inr ⟨hBa, nA3⟩) cA
    have cB' := hks.cell (.inr ⟨hBb, nB3⟩) cB
    clear nA3 nB3
    by_cases hend : la.length - iN + (lb.length - jN) = 0
    · have HD : Hid (pre.map PM.p = pairsF (la.length + lb.length) la lb) := by
        have h1 : la.drop iN = [] := List.drop_of_length_le (by omega)
        have h2 : lb.drop jN = [] := List.drop_of_length_le (by omega)
        have := HP.out
        rw [h1, h2] at this
        rw [this]
        cases f <;> simp [pairsF, headP, Hid]
      clear HP
      gi_wp2
      go_end0
      exact ⟨⟨_, rfl⟩, .inl ⟨pre, HD.out, hJs⟩⟩
    · obtain ⟨p, hp⟩ := headP_some (a := la.drop iN) (b := lb.drop jN) (by rw [List.length_drop, List.length_drop]; omega)
      obtain ⟨aa', hsla, hrowa⟩ := slice_rest aa ca iN la hiN hca
      obtain ⟨ab', hslb, hrowb⟩ := slice_rest ab cb jN lb hjN hcb
      have hWr : lo ≤ wr.heap.size := Nat.le_trans hWl hks.size
      have ltA : Ba < wr.heap.size := block_lt_of_cell cA'
      have ltB : Bb < wr.heap.size := block_lt_of_cell cB'
      have hRA : ∀ X, Below wr.heap.size wr X → Row X aa' (la.drop iN) := fun X hX => hrowa X ((hks.row hra hWr).below hX)
      have hRB : ∀ X, Below wr.heap.size wr X → Row X ab' (lb.drop jN) := fun X hX => hrowb X ((hks.row hrb hWr).below hX)
      have keep3 : ∀ X, Below wr.heap.size wr X → X.cell? ⟨Ba, 0, none⟩ = some (.slice aa la.length ca) ∧ X.cell? ⟨Bb, 0, none⟩ = some (.slice ab lb.length cb) ∧ Below wr.heap.size wr X := fun X hX => ⟨cell_on hX ltA cA', cell_on hX ltB cB', hX⟩
      have HH : Hid (headP (la.drop iN) (lb.drop jN) = some p) := hp
      have HA : Hid (∀ X, Below wr.heap.size wr X → Calls Tryz.prog 178 #[.slice aa' (la.length - iN) (ca - iN), .slice ab' (lb.length - jN) (cb - jN)] X fun e w1 => e = .returned (.tuple #[.agg #[.string p.1.1, .int .i64 p.1.2], .agg #[.string p.2.1, .int .i64 p.2.2]]) ∧ Below X.heap.size X w1 ∧ Below wr.heap.size wr w1 ∧ w1.cell? ⟨Ba, 0, none⟩ = some (.slice aa la.length ca) ∧ w1.cell? ⟨Bb, 0, none⟩ = some (.slice ab lb.length cb)) := fun X hX =>
        (first_len aa' ab' (ca - iN) (cb - jN) _ _ (la.drop iN) (lb.drop jN) (by simp) (by simp) X (hRA X hX) (hRB X hX) p hp).mono fun e w1 ⟨he, hb1⟩ => by
          have hbw := hX.trans (hb1.mono hX.size)
          exact ⟨he, hb1, hbw, (keep3 w1 hbw).1, (keep3 w1 hbw).2.1⟩
      have b0 : Below wr.heap.size wr wr.drew := (Below.refl _ _).drew
      have b1 : Below wr.heap.size wr (wr.alloc (.cells #[.string ⟨#[]⟩, .int .i64 0] 144)).drew := ((Below.refl _ _).alloc (Nat.le_refl _) _).drew
      have b2 : Below wr.heap.size wr ((wr.alloc (.cells #[.string ⟨#[]⟩, .int .i64 0] 144)).alloc (.cells #[.string ⟨#[]⟩, .int .i64 0] 144)).drew := (((Below.refl _ _).alloc (Nat.le_refl _) _).alloc (by simp) _).drew
      clear hRA hRB keep3 hp hrowa hrowb
      have hpos := headP_pos (fun m hm => hva m (List.mem_of_mem_drop hm)) (fun m hm => hvb m (List.mem_of_mem_drop hm)) HH.out
      rw [List.length_drop, List.length_drop] at hpos
      obtain ⟨hp1, hp2, hp3⟩ := hpos
      rcases (by omega : iN < la.length ∨ (¬ iN < la.length ∧ jN < lb.length)) with hi1 | ⟨hi1, hj1⟩
      all_goals
        gi_wp2
        refine wpIn_mono (Q := fun e a' w' => e = .normal ∧ ∃ (bx bz : Nat) (v8 v9 v10 v11 v12 v13 v14 v15 v16 v17 v18 v19 v20 v21 v22 v23 v24 v25 v26 v27 : Value), a' = { tmps := #[.func (.yield l) #[] #[], .pointer (some ⟨Ba, 0, none⟩), .pointer (some ⟨Bb, 0, none⟩), undef, .int .i64 (iN : Int), .int .i64 (jN : Int), .pointer (some ⟨bx, 0, none⟩), .pointer (some ⟨bz, 0, none⟩), v8, v9, v10, v11, v12, v13, v14, v15, v16, v17, v18, v19, v20, v21, v22, v23, v24, v25, v26, v27, u28, u29, u30, u31, u32, u33, u34, u35, u36, u37, u38, u39, u40], defers := [] } ∧ wr.heap.size ≤ bx ∧ wr.heap.size ≤ bz ∧ Below wr.heap.size wr w' ∧ w'.cell? ⟨bx, 0, none⟩ = some (.string p.1.1) ∧ w'.cell? ⟨bx, 1, none⟩ = some (.int .i64 p.1.2) ∧ w'.cell? ⟨bz, 0, none⟩ = some (.string p.2.1) ∧ w'.cell? ⟨bz, 1, none⟩ = some (.int .i64 p.2.2) ∧ w'.cell? ⟨bx, 3, none⟩ = none ∧ w'.cell? ⟨bz, 3, none⟩ = none) (wpIn_wide.2 ?_) ?_
        · rename_i Qo Qi K0 k0
          clear k0 K0 Qi Qo hY hJ h0 hra hrb hks hsa hsb HP hJs hf hend hWr hi1 hma hmb hca hcb hBa hBb cA cB hWl hva hvb hp1 hp2 hp3 HH
          have nA := World.new_ne wr _ cA'
          have nB := World.new_ne wr _ cB'
          have nA0 : Ba ≠ wr.heap.size := by omega
          have nA1 : Ba ≠ wr.heap.size + 1 := by omega
          have nB0 : Bb ≠ wr.heap.size := by omega
          have nB1 : Bb ≠ wr.heap.size + 1 := by omega
          go_region_held3 (fun w' => w'.cell? ⟨Ba, 0, none⟩ = some (.slice aa la.length ca) ∧ w'.cell? ⟨Bb, 0, none⟩ = some (.slice ab lb.length cb)) (first | (simp only [far_set _ _ nA0, far_set _ _ nA1, far_set _ _ nB0, far_set _ _ nB1, q0, q1, and_self]; done) | go_keep)
            (first | (go_at_call 178; refine (HA.out _ b0).mono ?_; rintro e w1 ⟨rfl, hb1, hbw1, q0, q1⟩; obtain ⟨hcc1, hff1⟩ := bcell hb1; have hz0 := hb1.size; simp at hz0; have nwA : Ba ≠ w1.heap.size := (by omega); have nwB : Bb ≠ w1.heap.size := (by omega)) | (go_at_call 178; refine (HA.out _ b1).mono ?_; rintro e w1 ⟨rfl, hb1, hbw1, q0, q1⟩; obtain ⟨hcc1, hff1⟩ := bcell hb1; have hz0 := hb1.size; simp at hz0; have nwA : Ba ≠ w1.heap.size := (by omega); have nwB : Bb ≠ w1.heap.size := (by omega); have hz1 : wr.heap.size < w1.heap.size := (by omega)) | (go_at_call 178; refine (HA.out _ b2).mono ?_; rintro e w1 ⟨rfl, hb1, hbw1, q0, q1⟩; obtain ⟨hcc1, hff1⟩ := bcell hb1; have hz0 := hb1.size; simp at hz0; have nwA : Ba ≠ w1.heap.size := (by omega); have nwB : Bb ≠ w1.heap.size := (by omega); have hz1 : wr.heap.size < w1.heap.size := (by omega); have hz2 : wr.heap.size + 1 < w1.heap.size := (by omega); obtain ⟨bb0, bb1⟩ := box4 (by simp) hb1))
          all_goals refine ⟨rfl, _, _, _, _, _, _, _, _, _, _, _, _, _, _, _, _, _, _, _, _, _, _, rfl, ?_, ?_, ?_, ?_, ?_, ?_, ?_, ?_, ?_⟩
          all_goals first | omega | (go_simp; done) | ((repeat' (first | exact hbw1 | refine Below.alloc ?_ ?_ _ | refine Below.setCell ?_ ?_ _)) <;> (first | omega | (simp; omega) | (simp; done)))
        · rintro e a' w' ⟨rfl, bx, bz, v8, v9, v10, v11, v12, v13, v14, v15, v16, v17, v18, v19, v20, v21, v22, v23, v24, v25, v26, v27, rfl, lbx, lbz, hbel, x0, x1, z0, z1, x3, z3⟩
          have hJ' : J pre w' := hJ _ _ _ none hJs (grown_of_below hbel) (fun r e => by cases e)
          have hps := headP_size (fun m hm => hsa m (List.mem_of_mem_drop hm)) (fun m hm => hsb m (List.mem_of_mem_drop hm)) HH.out
          have hlen : pre.length < la.length + lb.length := side_len HP.out HH.out (by omega)
          obtain ⟨fn, tmps, assign, body, hy, hR⟩ := hY pre ⟨p, hps⟩ w' hJ' hlen
          dsimp only [encP] at hy
          gi_wp2
          refine ⟨fun h => (by cases h), hR.mono ?_⟩
          rintro e W3 (⟨rfl, hJ3, hk3⟩ | ⟨rfl, hJx3⟩)
          · have y0 := hk3.cell (.inr ⟨by omega, x3⟩) x0
            have y1 := hk3.cell (.inr ⟨by omega, x3⟩) x1
            have t0 := hk3.cell (.inr ⟨by omega, z3⟩) z0
            have t1 := hk3.cell (.inr ⟨by omega, z3⟩) z1
            clear hR hy x0 x1 z0 z1 hY
            have hJ5 : ∀ X, Below W3.heap.size W3 X → J (pre ++ [⟨p, hps⟩]) X := fun X hX => hJ _ _ _ none hJ3 (grown_of_below hX) (fun r e => by cases e)
            have HJ5 : Hid (∀ X, Below W3.heap.size W3 X → J (pre ++ [⟨p, hps⟩]) X) := hJ5
            have HN : Hid (pairsF (la.length + lb.length) la lb = (pre ++ [(⟨p, hps⟩ : PM)]).map PM.p ++ pairsF (f - 1) (if 0 < p.1.2 then la.drop (iN + 1) else la.drop iN) (if 0 < p.2.2 then lb.drop (jN + 1) else lb.drop jN)) := side_next HP.out HH.out (by omega)
            have hks3 : KS lo hi W W3 := (hks.trans (KS.of_below hbel)).trans hk3
            clear hJ hJ3 hJ5 HP HH hk3 hks hJ' hJs
            gi_wp2_with fail
            refine ⟨trivial, fun h => (by cases h), (callsIn_wide.2 (had_any _ _ _)).mono ?_⟩
            rintro e w4 ⟨rfl, hb4⟩
            have s0 := cell_on hb4 (block_lt_of_cell t0) t0
            have s1 := cell_on hb4 (block_lt_of_cell t1) t1
            by_cases c1 : 0 < p.1.2
            all_goals
              gi_wp2_with fail
              refine ⟨trivial, fun h => (by cases h), (callsIn_wide.2 (had_any _ _ _)).mono ?_⟩
              rintro e w5 ⟨rfl, hb5⟩
              have hb45 : Below W3.heap.size W3 w5 := hb4.trans (hb5.mono hb4.size)
              by_cases c2 : 0 < p.2.2
            · have HN' : Hid (pairsF (la.length + lb.length) la lb = (pre ++ [(⟨p, hps⟩ : PM)]).map PM.p ++ pairsF (f - 1) (la.drop (iN + 1)) (lb.drop (jN + 1))) := by have := HN.out; rwa [if_pos c1, if_pos c2] at this
              gi_wp2_with fail
              all_goals exact ⟨⟨iN + 1, jN + 1, f - 1, pre ++ [⟨p, hps⟩], by omega, by omega, by go_num, by go_num, HN', by omega, HJ5.out _ hb45, hks3.trans (KS.of_below hb45)⟩, by simp [intOf]; omega⟩
            · have HN' : Hid (pairsF (la.length + lb.length) la lb = (pre ++ [(⟨p, hps⟩ : PM)]).map PM.p ++ pairsF (f - 1) (la.drop (iN + 1)) (lb.drop jN)) := by have := HN.out; rwa [if_pos c1, if_neg (by omega)] at this
              gi_wp2_with fail
              all_goals exact ⟨⟨iN + 1, jN, f - 1, pre ++ [⟨p, hps⟩], by omega, by omega, by go_num, rfl, HN', by omega, HJ5.out _ hb45, hks3.trans (KS.of_below hb45)⟩, by simp [intOf]; omega⟩
            · have HN' : Hid (pairsF (la.length + lb.length) la lb = (pre ++ [(⟨p, hps⟩ : PM)]).map PM.p ++ pairsF (f - 1) (la.drop iN) (lb.drop (jN + 1))) := by have := HN.out; rwa [if_neg (by omega), if_pos c2] at this
              gi_wp2_with fail
              all_goals exact ⟨⟨iN, jN + 1, f - 1, pre ++ [⟨p, hps⟩], by omega, by omega, rfl, by go_num, HN', by omega, HJ5.out _ hb45, hks3.trans (KS.of_below hb45)⟩, by simp [intOf]; omega⟩
            · exact absurd hp3 (by omega)
          · gi_wp2
            refine bodyPost_ret (results_none rfl _ _ _) rfl ?_
            exact ⟨⟨_, rfl⟩, .inr ⟨pre ++ [⟨p, hps⟩], side_pre HP.out HH.out (by omega), hJx3⟩⟩

end Go.Proofs.YtpfhegengmlkmacGreatDoor
/- The iterator's contract in the form that a loop over it takes. -/
namespace Go.Proofs.YtpfhegengmlkmacGreatDoor
open Go.RowKit Go.Shelf Go.BigFrame
attribute [local go_sem] Oper.semAt_some

set_option maxHeartbeats 400000 in
theorem sideBySide_any (aa ab : Option Addr) (na nb ca cb : Nat) (w : World) :
    Calls Tryz.prog 143 #[.slice aa na ca, .slice ab nb cb] w fun e w' => e = .returned (.func (.func 177) #[] #[.pointer (some ⟨w.heap.size, 0, none⟩), .pointer (some ⟨w.heap.size + 1, 0, none⟩)]) ∧
      w' = (w.alloc (.cells #[.slice aa na ca] 34)).alloc (.cells #[.slice ab nb cb] 34) := by
  go_enter Tryz.func143, Tryz.ntmps143
  go_wp2
  go_ret
  exact ⟨rfl, rfl⟩

theorem side_stops (n lo hi Ba Bb : Nat) (aa ab : Option Addr) (ca cb : Nat) (la lb : List (ByteArray × Int)) (hca : la.length ≤ ca) (hcb : lb.length ≤ cb) (hpa : StampP la) (hpb : StampP lb) (hBa : hi ≤ Ba) (hBb : hi ≤ Bb) (w : World) (hlo : lo ≤ w.heap.size)
    (cA : w.cell? ⟨Ba, 0, none⟩ = some (.slice aa la.length ca)) (cB : w.cell? ⟨Bb, 0, none⟩ = some (.slice ab lb.length cb)) (nA3 : w.cell? ⟨Ba, 3, none⟩ = none) (nB3 : w.cell? ⟨Bb, 3, none⟩ = none) (hra : RowL lo w aa la) (hrb : RowL lo w ab lb) :
    SeqStopsK Fence.wide n Tryz.prog 177 #[.pointer (some ⟨Ba, 0, none⟩), .pointer (some ⟨Bb, 0, none⟩)] encP (KS lo hi) (fun ys => ys.map PM.p = pairsF (la.length + lb.length) la lb) (fun pre => pre.map PM.p <+: pairsF (la.length + lb.length) la lb) (la.length + lb.length) w :=
  fun l J Jx W hW hJ _ hY h0 =>
    side1_in n l Ba Bb lo hi aa ab ca cb la lb hca hcb hpa.1 hpb.1 (name_sizes hpa) (name_sizes hpb) (stamp_sorted hpa).2 (stamp_sorted hpb).2 hBa hBb J Jx W (Nat.le_trans hlo hW.size) hJ hY
      (cell_on hW (block_lt_of_cell cA) cA) (cell_on hW (block_lt_of_cell cB) cB) ((hW.cell (p := ⟨Ba, 3, none⟩) (lt_of cA)).trans nA3) ((hW.cell (p := ⟨Bb, 3, none⟩) (lt_of cB)).trans nB3) (hra.below (hW.mono hlo)) (hrb.below (hW.mono hlo)) h0
where
  lt_of {B : Nat} {v : Value} (h : w.cell? ⟨B, 0, none⟩ = some v) : B < w.heap.size := block_lt_of_cell h
  name_sizes {l : List (ByteArray × Int)} (h : StampP l) : ∀ m ∈ l, m.1.size ≤ 1048576 := fun m hm => by
    obtain ⟨j, hj, rfl⟩ := List.mem_iff_getElem.1 hm
    have := (h.2.1 j hj).1.2.1
    omega

end Go.Proofs.YtpfhegengmlkmacGreatDoor
/- A region that draws its order, in a round of a range over a function: as everywhere, where it defers nothing. -/
namespace Go.Proofs.YtpfhegengmlkmacGreatDoor
open Go.RowKit

theorem oper_round {P : Program} {o : Oper} {a : Act} {w : World} {K : Act → World → Prop} {Q : Exit → Act → World → Prop} {l n : Nat} (nd : ∀ c, o.op ≠ .defer c) (h : o.wp P a w K Q) : o.wpIn (Fence.wide.inRound l) n P a w K Q := by
  refine ⟨fun f _ => trivial, ?_⟩
  show o.uponIn _ n P a K Q ((o.semAt (some l) a.eval).run P w)
  rw [Oper.semAt_some l _ _ nd]
  unfold Oper.wp at h
  generalize (execOp a.eval o).run P w = r at *
  cases r with
  | ok x w' =>
    cases x <;> simp only [Oper.upon] at h <;> simp only [Oper.uponIn]
    case value => exact h
    case skip => exact h
    case defer => exact h
    case enter f args => exact ⟨fun h => (by cases h), CallsIn.inRound l (callsIn_wide.2 h)⟩
    case row row args => exact ⟨fun h => (by cases h), fun c cs _ => let ⟨v, w', r, s⟩ := h c cs; ⟨v, w', r, stepsIn_wide.2 s⟩⟩
  | halt x w' => cases x <;> simp only [Oper.upon] at h <;> simp only [Oper.uponIn] <;> exact h

/-- No operation defers a call. -/
def noDef (ops : Array Oper) : Bool := ops.all fun o => match o.op with | .defer _ => false | _ => true
theorem noDef_spec {ops : Array Oper} (h : noDef ops = true) {i : Nat} {o : Oper} (ho : ops[i]? = some o) : ∀ c, o.op ≠ .defer c := by
  intro c hc
  obtain ⟨hi, rfl⟩ := Array.getElem?_eq_some_iff.1 ho
  have := Array.all_eq_true.1 h i hi
  simp [hc] at this

theorem op_round {P : Program} {ops : Array Oper} {Q : Exit → Act → World → Prop} {K K' : Act → World → Prop} {i l n : Nat} {a : Act} {w : World} (nd : noDef ops = true) (hlo : ¬ LetsOut Q) (hk : ∀ a w, K a w → K' a w) (h : wpOp P ops Q i K a w) : wpOpIn (Fence.wide.inRound l) n P ops Q i K' a w := by
  unfold wpOp at h
  unfold wpOpIn
  split
  · rename_i ho; simp only [ho] at h; exact hk _ _ h
  · rename_i o ho
    simp only [ho] at h
    split
    · rename_i hw
      simp only [hw, if_true] at h
      rcases h with h | ⟨_, h⟩
      · exact Oper.wpIn_mono hk (oper_round (noDef_spec nd ho) h)
      · exact absurd h hlo
    · rename_i hw; simp only [hw] at h; exact ⟨fun f _ => trivial, hk _ _ h⟩

theorem any_round {P : Program} {md : Region.Mode} {ops : Array Oper} {Q : Exit → Act → World → Prop} {l n : Nat} (nd : noDef ops = true) (hlo : ¬ LetsOut Q) : ∀ (fuel : Nat) (listed : Array Bool) (a : Act) (w : World), wpAny P md ops Q fuel listed a w → wpAnyIn (Fence.wide.inRound l) n P md ops Q fuel listed a w
  | 0, _, _, _, h => h
  | fuel + 1, _, _, _, h => ⟨h.1, fun i hi => op_round nd hlo (fun a' w' => any_round nd hlo fuel _ a' w') (h.2 i hi)⟩

/-- Loads are taken first under S; the rest comes up one by one. -/
theorem wpIn_region_heldR {P : Program} {ops : Array Oper} {Q : Exit → Act → World → Prop} {S : World → Prop} {l n id : Nat} {a : Act} {w : World} (hm : P.follows .mixedOrders = true) (nd : noDef ops = true) (hlo : ¬ LetsOut Q)
    (h : wpAnyH P .any ops Q S ops.size (Array.replicate ops.size false) a w.drew) : (Code.region id ops true).wpIn (Fence.wide.inRound l) n P Q a w :=
  wpIn_region_any hm (any_round nd hlo _ _ _ _ (wpAny_of_held _ _ _ _ h))

/-- Operations that only read, callees that make new memory and turn none: one walk in the order of the text. -/
theorem wpIn_region_latR {P : Program} {Q : Exit → Act → World → Prop} {l n id : Nat} {a : Act} {w : World} {os : List Oper} (hm : P.follows .mixedOrders = true) (hB : Region.lexB .any os.toArray = true) (nd : noDef os.toArray = true) (hlo : ¬ LetsOut Q)
    (h : wpQuiet P os.toArray (fun w' => ∃ n : Lat w, w' = n.w) (fun a' => ∀ w', (∃ n : Lat w, w' = n.w) → Q .normal a' w') os a) : (Code.region id os.toArray true).wpIn (Fence.wide.inRound l) n P Q a w := by
  simp only [Region.lexB, Bool.and_eq_true] at hB
  refine wpIn_region_any hm (any_round nd hlo _ _ _ _ (wpAny_of_quiet (C := fun w' => ∃ n : Lat w, w' = n.w) (Q := fun a' => ∀ w', (∃ n : Lat w, w' = n.w) → Q .normal a' w') (fun _ w' hw' h => h w' hw') _ _ _ _ ⟨⟨w.drew, (Below.refl _ _).drew⟩, rfl⟩ ?_))
  have := wpAnyQ_lex (C := fun w' => ∃ n : Lat w, w' = n.w) (md := .any) hB.1 os.toArray.toList 0 (Array.replicate os.toArray.size false) a (by simp) (by simpa using hB.2) (by simpa using h)
  simpa using this

end Go.Proofs.YtpfhegengmlkmacGreatDoor
/- The walk of impl.StampAgree. -/
namespace Go.Proofs.YtpfhegengmlkmacGreatDoor
open Go.RowKit Go.Shelf Go.BigFrame
attribute [local go_sem] Oper.semAt_some

/-- A pair that does not agree. -/
def Bad (x : (ByteArray × Int) × (ByteArray × Int)) : Prop := 0 < x.1.2 ∧ 0 < x.2.2 ∧ x.1 ≠ x.2

theorem agree_of_good {a b : List (ByteArray × Int)} {P : List ((ByteArray × Int) × (ByteArray × Int))} (ha : StampP a) (hb : StampP b) (hP : PSpec a b P) (h : ∀ p ∈ P, ¬ Bad p) : AgreeP a b := by
  refine ⟨ha, hb, fun i hi => ?_⟩
  have sa := stamp_sorted ha
  have sb := stamp_sorted hb
  have e1 : getM a a[i].1 = a[i].2 := getM_mem sa (List.getElem_mem hi)
  have e2 := sa.2 _ (List.getElem_mem hi)
  have e3 := getM_nonneg (s := a[i].1) sb
  by_cases h0 : getM b a[i].1 = 0
  · exact .inl h0
  obtain ⟨p, hm, hp⟩ := hP.all a[i].1 (.inl (by omega))
  obtain ⟨p1, p2, _⟩ := hP.mem p hm
  rw [hp] at p1 p2
  right
  by_cases hq : p.1 = p.2
  · rw [p1, p2] at hq
    have := (Prod.mk.inj hq).2
    omega
  · exact absurd ⟨by rw [p1]; simp only; omega, by rw [p2]; simp only; omega, hq⟩ (h p hm)
theorem not_agree_of_bad {a b : List (ByteArray × Int)} {P : List ((ByteArray × Int) × (ByteArray × Int))} (hP : PSpec a b P) {p : (ByteArray × Int) × (ByteArray × Int)} (hm : p ∈ P) (h : Bad p) : ¬ AgreeP a b := by
  rintro ⟨ha, hb, hall⟩
  obtain ⟨p1, p2, _⟩ := hP.mem p hm
  obtain ⟨h1, h2, h3⟩ := h
  rw [p1] at h1
  rw [p2] at h2
  simp only at h1 h2
  have hmem := getM_pos h1
  obtain ⟨i, hi, e⟩ := List.mem_iff_getElem.1 hmem
  have := hall i hi
  rw [e] at this
  simp only at this
  rcases this with h | h
  · omega
  · exact h3 (by rw [p1, p2, h])

theorem had_true (s : ByteArray) (v : Int) (w : World) (h : 0 < v) : Calls Tryz.prog 179 #[.agg #[.string s, .int .i64 v]] w fun e w' => e = .returned (.bool true) ∧ Below w.heap.size w w' :=
  (had_any s v w).mono fun e w' ⟨h1, h2⟩ => ⟨by rw [h1, decide_eq_true h], h2⟩
theorem had_false (s : ByteArray) (v : Int) (w : World) (h : ¬ 0 < v) : Calls Tryz.prog 179 #[.agg #[.string s, .int .i64 v]] w fun e w' => e = .returned (.bool false) ∧ Below w.heap.size w w' :=
  (had_any s v w).mono fun e w' ⟨h1, h2⟩ => ⟨by rw [h1, decide_eq_false h], h2⟩
theorem keepsFrom_below (B : Nat) {W W' : World} (h : Below W.heap.size W W') : KeepsFrom B W W' := ⟨h.size, fun k _ _ hk _ => (h.block k (Array.getElem?_eq_some_iff.1 hk).1).trans hk⟩

end Go.Proofs.YtpfhegengmlkmacGreatDoor
