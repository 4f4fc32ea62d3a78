/- Texts of this claim, one behind the other. -/
import Derived.Test.YtpfhegengmlkmacItM
import Derived.Test.YtpfhegengmlkmacGath
import Derived.Test.YtpfhegengmlkmacWinL
import Derived.Test.YtpfhegengmlkmacClone
import Derived.Deep.RegionHeld3
import Derived.Test.YtpfhegengmlkmacGaL
import Derived.Test.YtpfhegengmlkmacWd
import Derived.Test.YtpfhegengmlkmacOnly
import Derived.Test.YtpfhegengmlkmacItD
import Derived.Test.YtpfhegengmlkmacItE
import Derived.Test.YtpfhegengmlkmacStrsM
import Derived.Test.YtpfhegengmlkmacBase
import Derived.Maps.AppendAt
import Derived.Deep.AppendLies
import Derived.Laws.OwnMore
import Derived.Test.YtpfhegengmlkmacChS
/- Slices of items that the call itself gathers by append; append of all of a slice of marks onto a literal of none. -/
namespace Go.Proofs.Ytpfhegengmlkmac
open Go.RowKit Go.BigFrame

theorem mcells_cell1 : ∀ (l : List (ByteArray × Int)), ∀ u ∈ mcells l, u.oneCell' = true
  | [], u, h => by simp [mcells] at h
  | m :: r, u, h => by
    simp only [mcells, List.mem_cons] at h
    rcases h with rfl | rfl | h
    · rfl
    · rfl
    · exact mcells_cell1 r u h
theorem row_news {w : World} {b o : Nat} {l : List (ByteArray × Int)} (h : Row w (some ⟨b, o, none⟩) l) : ∀ j u, (mcells l)[j]? = some u → w.cell? ((⟨b, o, none⟩ : Addr).add j) = some u := by
  intro j u hj
  have hjl : j < (mcells l).length := (List.getElem?_eq_some_iff.1 hj).1
  rw [mcells_length] at hjl
  have e : (⟨b, o, none⟩ : Addr).add j = ⟨b, o + j, none⟩ := by unfold Addr.add; by_cases h : j = 0 <;> simp [h]
  rw [e]
  have hk : j / 2 < l.length := by omega
  obtain ⟨b', o', ha, _, c0, c1⟩ := h (j / 2) hk
  obtain ⟨rfl, rfl⟩ : b = b' ∧ o = o' := by simpa using ha
  have hm := mcells_at l (j / 2) hk
  rcases Nat.mod_two_eq_zero_or_one j with h2 | h2
  · have ej : j / 2 * 2 = j := by omega
    rw [ej] at hm c0
    rw [hj] at hm
    rw [c0]
    exact hm.1.symm
  · have ej : j / 2 * 2 + 1 = j := by omega
    have ej' : o + j / 2 * 2 + 1 = o + j := by omega
    rw [ej] at hm
    rw [ej'] at c1
    rw [hj] at hm
    rw [c1]
    exact hm.2.symm

/-- append of all the marks of a slice onto a literal of none. -/
theorem wpList_append_copy {ops : Array Oper} {rest : List Oper} {o : Oper} {a : Act} {w : World} {Q : Exit → Act → World → Prop} (hgd : o.guard = none) (s x : Operand)
    (ho : o.op = .call { callee := .builtin .append, args := #[s, x], argTypes := #[45, 45] }) (base e0 b off cap : Nat) (l : List (ByteArray × Int)) (hs : a.eval s = .slice (some ⟨e0, 0, none⟩) 0 0) (he : w.heap[e0]? = some (.cells #[] 104 (0, 0))) (hb : base ≤ e0)
    (hx : a.eval x = .slice (some ⟨b, off, none⟩) l.length cap) (hr : Row w (some ⟨b, off, none⟩) l) (hl0 : 0 < l.length) (hl : l.length ≤ 1048576)
    (h : ∀ g' cap' w', Gath w' base (.slice (some ⟨g', 0, none⟩) l.length cap') l → w.grownBy w' (some e0) → wpList Try.prog ops Q rest (a.put o.dst (.slice (some ⟨g', 0, none⟩) l.length cap')) w') : wpList Try.prog ops Q (o :: rest) a w := by
  obtain ⟨i0, hi, hz0, hz1, hz2⟩ := info_parts Try.infoM
  have hlt : e0 < w.heap.size := (Array.getElem?_eq_some_iff.1 he).1
  have hown : w.ownsRow base 104 2 (.slice (some ⟨e0, 0, none⟩) 0 0) 0 [] := ⟨rfl, .inr ⟨e0, 0, #[], rfl, hb, he, Nat.le_refl _, Nat.zero_le _, rfl, rfl⟩⟩
  refine wpList_append_lies w hgd s x 45 ho base 104 i0 (.agg #[.string .empty, .int .i64 0]) 2 24 Try.underlying45 hi hz0 hz1 hz2 rfl (by decide) _ _ _ hs hown ⟨b, off, none⟩ l.length cap (mcells l) hx (mcells_length l) (row_news hr) (mcells_cell1 l) hl0 (by unfold maxLen; omega) (by omega) (Nat.le_trans hb (Nat.le_of_lt hlt)) _ rfl ?_
  intro g' cap' w' h1 h2 _ _
  simp only [Nat.zero_add, List.nil_append] at h1 ⊢
  exact h g' cap' w' h1 h2

theorem gath_own {w : World} {B g cap : Nat} {l : List (ByteArray × Int)} (h : Gath w B (.slice (some ⟨g, 0, none⟩) l.length cap) l) : B ≤ g ∧ l.length ≤ cap ∧ Own w g l := by
  rcases h.form with ⟨hv, _⟩ | ⟨g', cap', hv, hB, ho⟩
  · simp at hv
  · obtain ⟨⟨rfl⟩, rfl⟩ : g = g' ∧ cap = cap' := by simpa using hv
    refine ⟨hB, ?_, ho⟩
    rcases h.2 with ⟨hv, _⟩ | ⟨g2, cap2, cur, hv, _, _, hn, _⟩
    · simp at hv
    · have : cap = cap2 := by simp at hv; exact hv.2
      omega

theorem Own.grown {w w' : World} {b : Nat} {row : Option Nat} {l : List (ByteArray × Int)} (h : Own w b l) (hg : w.grownBy w' row) (hne : some b ≠ row) : Own w' b l := by
  have hlt := h.lt
  obtain ⟨m, f, h, hf⟩ := h
  exact ⟨m, f, h.of_block (hg.block b hlt hne), hf⟩

/-- The cells of items whose marks lie in blocks of their own, two an item. -/
def icells : List (ItemL × Nat × Nat) → List Value
  | [] => []
  | p :: r => .int .i64 p.1.1 :: .slice (some ⟨p.2.1, 0, none⟩) p.1.2.length p.2.2 :: icells r
theorem icells_length : ∀ L, (icells L).length = L.length * 2
  | [] => rfl
  | p :: r => by simp [icells, icells_length r]; omega
theorem icells_append : ∀ L r, icells (L ++ r) = icells L ++ icells r
  | [], _ => rfl
  | p :: L, r => by simp [icells, icells_append L r]
theorem icells_at : ∀ (L : List (ItemL × Nat × Nat)) (k : Nat) (h : k < L.length), (icells L)[k * 2]? = some (.int .i64 L[k].1.1) ∧ (icells L)[k * 2 + 1]? = some (.slice (some ⟨L[k].2.1, 0, none⟩) L[k].1.2.length L[k].2.2)
  | p :: r, 0, _ => by simp [icells]
  | p :: r, k + 1, h => by
    have := icells_at r k (by simpa using h)
    have e0 : (k + 1) * 2 = k * 2 + 1 + 1 := by omega
    rw [e0]
    simp only [icells, List.getElem?_cons_succ, List.getElem_cons_succ]
    exact this

/-- The slice value 'v' holds the items 'l', in a block of the call's own from number 'B' on, their marks each in a block of its own from 'B' on; or it is nil, and there are none. -/
def GathI (w : World) (B : Nat) (v : Value) (l : List ItemL) : Prop :=
  ∃ L : List (ItemL × Nat × Nat), L.map (·.1) = l ∧ w.ownsRow B 74 2 v L.length (icells L) ∧ (∀ p ∈ L, p.1.2.length ≤ p.2.2 ∧ Own w p.2.1 p.1.2 ∧ B ≤ p.2.1) ∧ L.Pairwise fun p q => p.2.1 ≠ q.2.1

theorem gathI_none (w : World) (B : Nat) : GathI w B (.slice none 0 0) [] := ⟨[], rfl, World.ownsRow_nil _ _ _ _, by simp, List.Pairwise.nil⟩

/-- A row of items is no row of marks. -/
theorem items_no_marks {w : World} {B n b : Nat} {v : Value} {xs : List Value} {l : List (ByteArray × Int)} (h : w.ownsRow B 74 2 v n xs) (ho : Own w b l) : some b ≠ v.ownBlock := by
  intro e
  obtain ⟨m, f, ⟨cs, h1, _⟩, _⟩ := ho
  rcases h.2 with ⟨rfl, _⟩ | ⟨g, cap, cur, rfl, _, hh, _⟩
  · simp [Value.ownBlock] at e
  · obtain rfl : b = g := by simpa [Value.ownBlock] using e
    rw [h1] at hh
    simp at hh

theorem GathI.len {w : World} {B : Nat} {v : Value} {l : List ItemL} (h : GathI w B v l) : ∃ a cap, v = .slice a l.length cap ∧ l.length ≤ cap := by
  obtain ⟨L, rfl, ho, _⟩ := h
  rcases ho.2 with ⟨rfl, h0⟩ | ⟨g, cap, cur, rfl, _, _, hn, _⟩
  · exact ⟨_, 0, by rw [List.length_map, h0], by rw [List.length_map, h0]; exact Nat.le_refl _⟩
  · exact ⟨_, cap, by rw [List.length_map], by rw [List.length_map]; exact hn⟩

theorem GathI.keep {w w' : World} {B : Nat} {v : Value} {l : List ItemL} (h : GathI w B v l) (hb : Below w.heap.size w w') : GathI w' B v l := by
  obtain ⟨L, e, ⟨hl, ho⟩, hm, hd⟩ := h
  refine ⟨L, e, ⟨hl, ?_⟩, fun p hp => ⟨(hm p hp).1, (hm p hp).2.1.below hb, (hm p hp).2.2⟩, hd⟩
  rcases ho with h | ⟨g, cap, cur, hv, hg, hh, r⟩
  · exact .inl h
  · refine .inr ⟨g, cap, cur, hv, hg, ?_, r⟩
    rw [hb.block g (Array.getElem?_eq_some_iff.1 hh).1]
    exact hh

theorem GathI.lower {w : World} {B B' : Nat} {v : Value} {l : List ItemL} (h : GathI w B v l) (hB : B' ≤ B) : GathI w B' v l := by
  obtain ⟨L, e, ⟨hl, ho⟩, hm, hd⟩ := h
  refine ⟨L, e, ⟨hl, ?_⟩, fun p hp => ⟨(hm p hp).1, (hm p hp).2.1, Nat.le_trans hB (hm p hp).2.2⟩, hd⟩
  rcases ho with h | ⟨g, cap, cur, hv, hg, r⟩
  · exact .inl h
  · exact .inr ⟨g, cap, cur, hv, Nat.le_trans hB hg, r⟩

/-- An item was appended: its marks lie in block 'gm', which is none of the others. -/
theorem GathI.snoc {w w' : World} {B gm c : Nat} {v v' : Value} {L : List (ItemL × Nat × Nat)} {x : Int} {m : List (ByteArray × Int)}
    (ho : w.ownsRow B 74 2 v L.length (icells L)) (hm : ∀ p ∈ L, p.1.2.length ≤ p.2.2 ∧ Own w p.2.1 p.1.2 ∧ B ≤ p.2.1) (hd : L.Pairwise fun p q => p.2.1 ≠ q.2.1)
    (hg : Own w gm m) (hB : B ≤ gm) (hc : m.length ≤ c) (hn : ∀ p ∈ L, p.2.1 ≠ gm)
    (h' : w'.ownsRow B 74 2 v' (L.length + 1) (icells L ++ [.int .i64 x, .slice (some ⟨gm, 0, none⟩) m.length c])) (hgr : w.grownBy w' v.ownBlock) : GathI w' B v' (L.map (·.1) ++ [(x, m)]) := by
  refine ⟨L ++ [((x, m), gm, c)], by simp, ?_, fun p hp => ?_, ?_⟩
  · rw [icells_append, List.length_append]
    exact h'
  · rcases List.mem_append.1 hp with hp | hp
    · obtain ⟨h1, h2, h3⟩ := hm p hp
      exact ⟨h1, h2.grown hgr (items_no_marks ho h2), h3⟩
    · obtain rfl : p = ((x, m), gm, c) := by simpa using hp
      exact ⟨hc, hg.grown hgr (items_no_marks ho hg), hB⟩
  · rw [List.pairwise_append]
    refine ⟨hd, List.pairwise_singleton _ _, fun p hp q hq => ?_⟩
    obtain rfl : q = ((x, m), gm, c) := by simpa using hq
    exact hn p hp

theorem GathI.grown {W w w' : World} {B : Nat} {v : Value} {n : Nat} {xs : List Value} (h : w.ownsRow B 74 2 v n xs) (hb : Below B W w) (hB : B ≤ w.heap.size) (hg : w.grownBy w' v.ownBlock) : Below B W w' :=
  hb.grown hg hB (fun k e => by
    rcases h.2 with ⟨rfl, _⟩ | ⟨g, cap, cur, rfl, hle, _⟩
    · cases e
    · simp [Value.ownBlock] at e; omega)

/-- The items 'l' lie at 'a', in blocks of the call's own from number 'lo' on and ahead of 'hi'; or there are none. -/
def SafeI (w : World) (lo hi : Nat) (a : Option Addr) (l : List ItemL) : Prop :=
  l = [] ∨ ∃ g, a = some ⟨g, 0, none⟩ ∧ lo ≤ g ∧ g < hi ∧ PartI w lo hi g l l.length

theorem SafeI.row {w : World} {lo hi : Nat} {a : Option Addr} {l : List ItemL} (h : SafeI w lo hi a l) : RowI w a l := by
  rcases h with rfl | ⟨g, rfl, _, _, hp⟩
  · exact fun k hk => absurd hk (Nat.not_lt_zero k)
  · exact hp.row
theorem SafeI.below {w w' : World} {lo hi : Nat} {a : Option Addr} {l : List ItemL} (h : SafeI w lo hi a l) (hb : Below w.heap.size w w') : SafeI w' lo hi a l := by
  rcases h with rfl | ⟨g, rfl, h1, h2, hp⟩
  · exact .inl rfl
  · exact .inr ⟨g, rfl, h1, h2, hp.below hb⟩
theorem PartI.span {w w' : World} {lo hi lo' hi' g k : Nat} {l : List ItemL} (h : PartI w lo hi g l k) (h1 : lo ≤ g) (h2 : g < hi) (hs : Span lo' hi' w w') (hd : hi ≤ lo' ∨ hi' ≤ lo) : PartI w' lo hi g l k := by
  have hlt := h.lt
  obtain ⟨G, C, m, f, h, hm, hf, hp⟩ := h
  refine ⟨G, C, m, f, h.of_block (hs.block g hlt (by omega)), hm, fun j hj hk => ?_, hp⟩
  obtain ⟨e1, e2, e3, e4, e5, e6, e7⟩ := hf j hj hk
  have hl4 := e4.lt
  obtain ⟨m', f', h', hf'⟩ := e4
  exact ⟨e1, e2, e3, ⟨m', f', h'.of_block (hs.block (G j) hl4 (by omega)), hf'⟩, e5, e6, e7⟩
theorem SafeI.span {w w' : World} {lo hi lo' hi' : Nat} {a : Option Addr} {l : List ItemL} (h : SafeI w lo hi a l) (hs : Span lo' hi' w w') (hd : hi ≤ lo' ∨ hi' ≤ lo) : SafeI w' lo hi a l := by
  rcases h with rfl | ⟨g, rfl, h1, h2, hp⟩
  · exact .inl rfl
  · exact .inr ⟨g, rfl, h1, h2, hp.span h1 h2 hs hd⟩

theorem GathI.safe {w : World} {B : Nat} {v : Value} {l : List ItemL} (h : GathI w B v l) : ∃ a cap, v = .slice a l.length cap ∧ l.length ≤ cap ∧ SafeI w B w.heap.size a l := by
  obtain ⟨L, rfl, ho, hm, hd⟩ := h
  have hno : ∀ p ∈ L, some p.2.1 ≠ v.ownBlock := fun p hp => items_no_marks ho (hm p hp).2.1
  rcases ho.2 with ⟨rfl, h0⟩ | ⟨g, cap, cur, rfl, hBg, hh, hn, hcm, hcs, htk⟩
  · obtain rfl : L = [] := List.length_eq_zero_iff.1 h0
    exact ⟨_, _, rfl, Nat.le_refl _, .inl rfl⟩
  · have hgl : g < w.heap.size := (Array.getElem?_eq_some_iff.1 hh).1
    refine ⟨_, cap, by rw [List.length_map], by rw [List.length_map]; exact hn, .inr ⟨g, rfl, hBg, hgl, fun j => ((L[j]?).map (·.2.1)).getD 0, fun j => ((L[j]?).map (·.2.2)).getD 0, cap * 2, fun i => (cur[i]?).getD undef, ⟨cur, hh, hcs, fun i hi => ?_⟩, by rw [List.length_map]; omega, fun j hj _ => ?_, fun i j hi hj hne => ?_⟩⟩
    · have hi' : i < cur.size := by omega
      simp [Array.getElem?_eq_getElem hi']
    · rw [List.length_map] at hj
      have hL : L[j]? = some L[j] := List.getElem?_eq_getElem hj
      have hp := hm _ (List.getElem_mem hj)
      have h2 := icells_at L j hj
      rw [← htk] at h2
      rw [List.getElem?_take_of_lt (by omega), List.getElem?_take_of_lt (by omega)] at h2
      simp only [Array.getElem?_toList] at h2
      simp only [h2.1, h2.2, hL, List.getElem_map, Option.map_some, Option.getD_some]
      refine ⟨trivial, trivial, hp.1, hp.2.1, hp.2.2, hp.2.1.lt, fun e => ?_⟩
      exact hno _ (List.getElem_mem hj) (by rw [e]; rfl)
    · rw [List.length_map] at hi hj
      have hLi : L[i]? = some L[i] := List.getElem?_eq_getElem hi
      have hLj : L[j]? = some L[j] := List.getElem?_eq_getElem hj
      simp only [hLi, hLj, Option.map_some, Option.getD_some]
      rw [List.pairwise_iff_getElem] at hd
      rcases Nat.lt_or_gt_of_ne hne with h | h
      · exact hd i j hi hj h
      · exact Ne.symm (hd j i hj hi h)

/-- Items of no kind but these. -/
def Small1 (l : List ItemL) : Prop := l.length ≤ 1048576 ∧ ∀ j, (h : j < l.length) → l[j].2.length ≤ 1048576

theorem markSafeI_any (a : Option Addr) (cap lo hi : Nat) (l : List ItemL) (k : Int) (w : World) (hn : Small1 l) (hk0 : 0 ≤ k) (hk1 : k + (l.length : Int) + 2 * (lens l : Int) ≤ 10000000) (hs : SafeI w lo hi a l) :
    Calls Try.prog 64 #[.slice a l.length cap, .int .i64 k] w fun e w' => e = .returned (.int .i64 (k + (l.length : Int) + 2 * (lens l : Int))) ∧ SafeI w' lo hi a (markedI k l) ∧ Span lo hi w w' := by
  rcases hs with rfl | ⟨g, rfl, h1, h2, hp⟩
  · exact (markItemS_none a cap k w).mono fun e w' ⟨he, hw⟩ => ⟨by rw [he]; simp [lens], .inl rfl, by rw [hw]; exact Span.refl _ _ _⟩
  · exact (markItemS_any g cap lo hi l k w hn.1 h1 h2 hk0 hk1 hn.2 hp).mono fun e w' ⟨he, hp', hb⟩ => ⟨he, .inr ⟨g, rfl, h1, h2, hp'⟩, hb⟩


/-- append of one item onto items that the call gathers. The marks of the item lie in a block that is newer than all that was gathered. -/
theorem wp_append_item {o : Oper} {a : Act} {w : World} {K : Act → World → Prop} {Q : Exit → Act → World → Prop} (s x : Operand)
    (ho : o.op = .call { callee := .builtin .append, args := #[s, x], argTypes := #[25, 25] }) (w0 : World) (base : Nat) (v : Value) (l : List ItemL) (hs : a.eval s = v) (hg : GathI w0 base v l) (hb : Below w0.heap.size w0 w) (hbase : base ≤ w0.heap.size)
    (ad : Nat) (xv : Int) (m : List (ByteArray × Int)) (gm c : Nat) (hx : a.eval x = .slice (some ⟨ad, 0, none⟩) 1 1) (c0 : w.cell? ⟨ad, 0, none⟩ = some (.int .i64 xv)) (c1 : w.cell? ⟨ad, 1, none⟩ = some (.slice (some ⟨gm, 0, none⟩) m.length c))
    (hm : Own w gm m) (hgm : w0.heap.size ≤ gm) (hc : m.length ≤ c) (hl : l.length ≤ 1048576)
    (h : ∀ v' w', GathI w' base v' (l ++ [(xv, m)]) → Below base w w' → K (a.put o.dst v') w') : o.wp Try.prog a w K Q := by
  obtain ⟨i0, hi, hz0, hz1, hz2⟩ := info_parts Try.infoI
  obtain ⟨L, rfl, hown, hmk, hd⟩ := hg
  have hown' : w.ownsRow base 74 2 v L.length (icells L) := by
    obtain ⟨hl, ho⟩ := hown
    refine ⟨hl, ?_⟩
    rcases ho with h | ⟨g, cap, cur, hv, hg, hh, r⟩
    · exact .inl h
    · refine .inr ⟨g, cap, cur, hv, hg, ?_, r⟩
      rw [hb.block g (Array.getElem?_eq_some_iff.1 hh).1]
      exact hh
  have hmk' : ∀ p ∈ L, p.1.2.length ≤ p.2.2 ∧ Own w p.2.1 p.1.2 ∧ base ≤ p.2.1 := fun p hp => ⟨(hmk p hp).1, (hmk p hp).2.1.below hb, (hmk p hp).2.2⟩
  have hnew : ∀ p ∈ L, p.2.1 ≠ gm := fun p hp => by have := (hmk p hp).2.1.lt; omega
  have hz := hb.size
  rw [List.length_map] at hl
  obtain ⟨g, cap, w', hr, h2, h3, _, _⟩ := run_append_lies (P := Try.prog) w 25 o.type base 74 i0 (.agg #[.int .i64 0, .slice none 0 0]) 2 32 Try.underlying25 hi hz0 hz1 hz2 rfl (by decide) _ _ _ hown' ⟨ad, 0, none⟩ 1 1 [.int .i64 xv, .slice (some ⟨gm, 0, none⟩) m.length c] rfl (by
      intro j u hj
      match j, hj with
      | 0, hj => simp at hj; subst hj; exact c0
      | 1, hj => simp at hj; subst hj; exact c1) (by simp [Value.oneCell']) (by decide) (by unfold maxLen; omega) (by omega) (by omega) _ rfl
  unfold Oper.wp execOp
  simp only [ho, resolve, invoke, builtin, Sem.run_bind, Sem.run_pure, Result.andThen_ok, List.map_toArray, List.map_cons, List.map_nil, hs, hx, hr]
  exact h _ w' (GathI.snoc hown' hmk' hd hm (Nat.le_trans hbase hgm) hc hnew h2 h3) (GathI.grown hown' (Below.refl _ _) (Nat.le_trans hbase hz) h3)

theorem wpList_append_item {ops : Array Oper} {rest : List Oper} {o : Oper} {a : Act} {w : World} {Q : Exit → Act → World → Prop} (hgd : o.guard = none) (s x : Operand)
    (ho : o.op = .call { callee := .builtin .append, args := #[s, x], argTypes := #[25, 25] }) (w0 : World) (base : Nat) (v : Value) (l : List ItemL) (hs : a.eval s = v) (hg : GathI w0 base v l) (hb : Below w0.heap.size w0 w) (hbase : base ≤ w0.heap.size)
    (ad : Nat) (xv : Int) (m : List (ByteArray × Int)) (gm c : Nat) (hx : a.eval x = .slice (some ⟨ad, 0, none⟩) 1 1) (c0 : w.cell? ⟨ad, 0, none⟩ = some (.int .i64 xv)) (c1 : w.cell? ⟨ad, 1, none⟩ = some (.slice (some ⟨gm, 0, none⟩) m.length c))
    (hm : Own w gm m) (hgm : w0.heap.size ≤ gm) (hc : m.length ≤ c) (hl : l.length ≤ 1048576)
    (h : ∀ v' w', GathI w' base v' (l ++ [(xv, m)]) → Below base w w' → wpList Try.prog ops Q rest (a.put o.dst v') w') : wpList Try.prog ops Q (o :: rest) a w :=
  wpList_plain hgd fun _ hK => wp_append_item s x ho w0 base v l hs hg hb hbase ad xv m gm c hx c0 c1 hm hgm hc hl fun v' w' h1 h2 => hK _ _ (h v' w' h1 h2)

end Go.Proofs.Ytpfhegengmlkmac
/- Walks: (Item).fresh, (*window).items. -/
namespace Go.Proofs.Ytpfhegengmlkmac
open Go.RowKit Go.BigFrame
set_option maxRecDepth 100000

set_option maxHeartbeats 1600000 in
theorem freshMarks_any (a : Option Addr) (c : Nat) (l : List (ByteArray × Int)) (w : World) (hr : Row w a l) (hl : l.length ≤ 1048576) (hs : ∀ j, (h : j < l.length) → l[j].1.size ≤ 281474976710656) :
    Calls Try.prog 98 #[.slice a l.length c] w fun e w' => (∃ g cap, e = .returned (.slice (some ⟨g, 0, none⟩) l.length cap) ∧ w.heap.size ≤ g ∧ l.length ≤ cap ∧ Own w' g l) ∧ Below w.heap.size w w' := by
  obtain ⟨i0, hi, hz0, hz1, hz2⟩ := info_parts Try.infoM
  have hmk : ∀ u : World, (Instr.makeSlice 45 (.int .i64 0) (.int .i64 (l.length : Int))).run Try.prog u =
      .ok (.slice (some ⟨u.heap.size, 0, none⟩) 0 l.length) (u.alloc (.cells (madeCells #[.string .empty, .int .i64 0] (l.length * 2)) 104)) := fun u => by
    have h := run_make (P := Try.prog) u 45 104 i0 (.agg #[.string .empty, .int .i64 0]) Try.underlying45 hi hz0 .i64 .i64 0 (l.length : Int) (by omega) (by omega) (by rw [hz2]; omega) (by omega)
    simpa [hz1, Value.cells] using h
  go_enter Try.func98, Try.ntmps98
  go_wp2_with fail
  have hg0 : Gath (w.alloc (.cells (madeCells #[.string .empty, .int .i64 0] (l.length * 2)) 104)) w.heap.size (.slice (some ⟨w.heap.size, 0, none⟩) 0 l.length) [] :=
    ⟨rfl, .inr ⟨w.heap.size, l.length, madeCells #[.string .empty, .int .i64 0] (l.length * 2), rfl, Nat.le_refl _, heap_alloc_new w _, Nat.zero_le _, by unfold maxLen; omega, size_madeCells _ _, rfl⟩⟩
  have hb0 : Below w.heap.size w (w.alloc (.cells (madeCells #[.string .empty, .int .i64 0] (l.length * 2)) 104)) := (Below.refl _ _).alloc (Nat.le_refl _) _
  generalize (w.alloc (.cells (madeCells #[.string .empty, .int .i64 0] (l.length * 2)) 104)) = WA at *
  clear hmk
  go_loopw [3, 11] (fun out i wr => ∃ k : Nat, k ≤ l.length ∧ i = .int .i64 k ∧ (∃ g cap, out = .slice (some ⟨g, 0, none⟩) k cap ∧ Gath wr w.heap.size (.slice (some ⟨g, 0, none⟩) k cap) (l.take k)) ∧ Below w.heap.size w wr) (fun _ i _ => l.length - (intOf i).toNat)
  case atStart => exact ⟨0, Nat.zero_le _, rfl, ⟨_, _, rfl, hg0⟩, hb0⟩
  case round =>
    obtain ⟨k, hk, rfl, ⟨g, cap, rfl, hg⟩, hb⟩ := hrel
    have hz := hb.size
    by_cases hlt : k < l.length
    · obtain ⟨b, o, rfl, hblt, e0, e1⟩ := hr k hlt
      have x0 := cell_on hb hblt e0
      have x1 := cell_on hb hblt e1
      have k0 : (0 : Int) ≤ (k : Int) := by omega
      have k1 : (k : Int) < (l.length : Int) := by omega
      have hsk := hs k hlt
      have HT : Hid (l.take (k + 1) = l.take k ++ [(l[k].1, l[k].2)]) := List.take_succ_eq_append_getElem hlt
      have htl : (l.take k).length = k := by rw [List.length_take]; omega
      clear e0 e1
      go_wp2_with fail
      have hbx : Below wr.heap.size wr (wr.alloc (.cells #[.string l[k].1, .int .i64 l[k].2] 104)) := (Below.refl _ _).alloc (Nat.le_refl _) _
      refine (fresh_any l[k].1 l[k].2 _ hsk).mono ?_
      rintro e w2 ⟨rfl, b2⟩
      have b2' : Below wr.heap.size wr w2 := hbx.trans (b2.mono hbx.size)
      have hg2 := hg.keep b2'
      have z2 := b2'.size
      have B2 : Below w.heap.size w w2 := hb.trans (b2'.mono hz)
      clear hg b2 b2' hbx hb x0 x1
      go_wp2_with (at_builtin; refine wpList_append_lies _ rfl _ _ 45 rfl w.heap.size 104 i0 (.agg #[.string .empty, .int .i64 0]) 2 24 Try.underlying45 hi hz0 hz1 hz2 rfl (by decide) _ _ _ rfl (hg2.alloc _) ⟨w2.heap.size, 0, none⟩ 1 1 [.string l[k].1, .int .i64 l[k].2] rfl rfl (two_new w2 _ _ _) (by simp [Value.oneCell']) (by decide) (by unfold maxLen; omega) (by omega) (by simp; omega) _ rfl ?_; intro g' cap' wx hown' hgrow _ _)
      have hb10 := Gath.grown (W := w) (B := w.heap.size) (w := w2.alloc (.cells #[.string l[k].1, .int .i64 l[k].2] 104)) (hg2.alloc _) (B2.alloc (by omega) _) (by simp; omega) hgrow
      have hg10 := Gath.snoc hown'
      rw [htl] at hg10
      exact ⟨⟨k + 1, by omega, by go_num, ⟨_, _, rfl, by rw [HT.out]; exact hg10⟩, hb10⟩, by simp [intOf]; omega⟩
    · obtain rfl : k = l.length := by omega
      rw [List.take_of_length_le (Nat.le_refl _)] at hg
      obtain ⟨hgB, hgc, ho⟩ := gath_own hg
      go_wp2_with fail
      go_ret
      exact ⟨⟨g, cap, rfl, hgB, hgc, ho⟩, hb⟩

set_option maxHeartbeats 1600000 in
theorem freshItem_any (x : Int) (a : Option Addr) (c : Nat) (l : List (ByteArray × Int)) (w : World) (hr : Row w a l) (hl : l.length ≤ 1048576) (hs : ∀ j, (h : j < l.length) → l[j].1.size ≤ 281474976710656) :
    Calls Try.prog 118 #[.agg #[.int .i64 x, .slice a l.length c]] w fun e w' => (∃ g cap, e = .returned (.agg #[.int .i64 x, .slice (some ⟨g, 0, none⟩) l.length cap]) ∧ w.heap.size ≤ g ∧ l.length ≤ cap ∧ Own w' g l) ∧ Below w.heap.size w w' := by
  go_enter Try.func118, Try.ntmps118
  go_wp2_with fail
  have hb0 : Below w.heap.size w ((w.alloc (.cells #[.int .i64 x, .slice a l.length c] 74)).alloc (.cells #[.int .i64 0, .slice none 0 0] 74)) := ((Below.refl _ _).alloc (Nat.le_refl _) _).alloc (by simp) _
  have hsz : ((w.alloc (.cells #[.int .i64 x, .slice a l.length c] 74)).alloc (.cells #[.int .i64 0, .slice none 0 0] 74)).heap.size = w.heap.size + 2 := by simp
  have c0 : ((w.alloc (.cells #[.int .i64 x, .slice a l.length c] 74)).alloc (.cells #[.int .i64 0, .slice none 0 0] 74)).cell? ⟨w.heap.size, 0, none⟩ = some (.int .i64 x) := by simp [go_sem]
  have c1 : ((w.alloc (.cells #[.int .i64 x, .slice a l.length c] 74)).alloc (.cells #[.int .i64 0, .slice none 0 0] 74)).cell? ⟨w.heap.size, 1, none⟩ = some (.slice a l.length c) := by simp [go_sem]
  have d0 : ((w.alloc (.cells #[.int .i64 x, .slice a l.length c] 74)).alloc (.cells #[.int .i64 0, .slice none 0 0] 74)).cell? ⟨w.heap.size + 1, 0, none⟩ = some (.int .i64 0) := by simp [go_sem]
  have d1 : ((w.alloc (.cells #[.int .i64 x, .slice a l.length c] 74)).alloc (.cells #[.int .i64 0, .slice none 0 0] 74)).cell? ⟨w.heap.size + 1, 1, none⟩ = some (.slice none 0 0) := by simp [go_sem]
  have f0 : ((w.alloc (.cells #[.int .i64 x, .slice a l.length c] 74)).alloc (.cells #[.int .i64 0, .slice none 0 0] 74)).frozen? ⟨w.heap.size + 1, 0, none⟩ = false := by simp [go_sem]
  have f1 : ((w.alloc (.cells #[.int .i64 x, .slice a l.length c] 74)).alloc (.cells #[.int .i64 0, .slice none 0 0] 74)).frozen? ⟨w.heap.size + 1, 1, none⟩ = false := by simp [go_sem]
  generalize ((w.alloc (.cells #[.int .i64 x, .slice a l.length c] 74)).alloc (.cells #[.int .i64 0, .slice none 0 0] 74)) = WA at *
  have SW : WA.drew.cell? ⟨w.heap.size, 0, none⟩ = some (.int .i64 x) ∧ WA.drew.cell? ⟨w.heap.size, 1, none⟩ = some (.slice a l.length c) := ⟨c0, c1⟩
  refine wp_region_held_drew (S := fun u => u.cell? ⟨w.heap.size, 0, none⟩ = some (.int .i64 x) ∧ u.cell? ⟨w.heap.size, 1, none⟩ = some (.slice a l.length c)) (by kernel_rfl) SW (fun _ => ?_)
  refine wpAnyH_take (i := 0) (v := .pointer (some ⟨w.heap.size, 0, none⟩)) rfl (by kernel_rfl) (by kernel_rfl) (by kernel_rfl) (fun _ _ _ h => h) (Or.inl ⟨by rfl, ?_⟩) SW ?_
  · rintro u ⟨q1, q2⟩
    go_simp
  simp only [Act.put, List.setIfInBounds_toArray]
  refine wpAnyH_take (i := 1) (v := .int .i64 x) rfl (by kernel_rfl) (by kernel_rfl) (by kernel_rfl) (fun _ _ _ h => h) (Or.inl ⟨by rfl, ?_⟩) SW ?_
  · rintro u ⟨q1, q2⟩
    go_simp
  simp only [Act.put]
  refine wpAnyH_take (i := 2) (v := .pointer (some ⟨w.heap.size, 1, none⟩)) rfl (by kernel_rfl) (by kernel_rfl) (by kernel_rfl) (fun _ _ _ h => h) (Or.inl ⟨by rfl, ?_⟩) SW ?_
  · rintro u ⟨q1, q2⟩
    go_simp
  simp only [Act.put]
  refine wpAnyH_take (i := 3) (v := .slice a l.length c) rfl (by kernel_rfl) (by kernel_rfl) (by kernel_rfl) (fun _ _ _ h => h) (Or.inl ⟨by rfl, ?_⟩) SW ?_
  · rintro u ⟨q1, q2⟩
    go_simp
  simp only [Act.put]
  refine wpAnyH_ready (rs := [4]) (by kernel_rfl) (by simp) ?_
  refine AllReadyH.cons rfl (fun K hK => ?_) AllReadyH.nil
  rw [if_pos (by rfl)]
  go_simp
  have hbd : Below w.heap.size w WA.drew := hb0.drew
  refine (freshMarks_any a c l _ (hr.below hbd) hl hs).mono ?_
  rintro e w2 ⟨⟨g, cap, rfl, hg, hcap, ho⟩, b2⟩
  have b2' : Below WA.heap.size WA w2 := ((Below.refl _ _).drew).trans b2
  have hgl : w.heap.size + 2 ≤ g := by have : WA.drew.heap.size = WA.heap.size := rfl; omega
  have S2 : w2.cell? ⟨w.heap.size, 0, none⟩ = some (.int .i64 x) ∧ w2.cell? ⟨w.heap.size, 1, none⟩ = some (.slice a l.length c) := ⟨cell_on b2' (by omega) c0, cell_on b2' (by omega) c1⟩
  have B2 : Below w.heap.size w w2 := hb0.trans (b2'.mono (by omega))
  have x0 := cell_on b2' (by omega) d0
  have x1 := cell_on b2' (by omega) d1
  have y0 : w2.frozen? ⟨w.heap.size + 1, 0, none⟩ = false := (b2'.frozen (p := ⟨w.heap.size + 1, 0, none⟩) (by simp only; omega)).trans f0
  have y1 : w2.frozen? ⟨w.heap.size + 1, 1, none⟩ = false := (b2'.frozen (p := ⟨w.heap.size + 1, 1, none⟩) (by simp only; omega)).trans f1
  refine hK.out _ _ S2 (fun _ => ?_)
  clear hK K b2 SW hbd c0 c1 d0 d1 f0 f1 hb0 b2'
  refine wpAnyH_take (i := 5) (v := .agg #[.int .i64 x, .slice (some ⟨g, 0, none⟩) l.length cap]) rfl (by kernel_rfl) (by kernel_rfl) (by kernel_rfl) (fun _ _ _ h => h) (Or.inl ⟨by rfl, ?_⟩) S2 ?_
  · rintro u ⟨q1, q2⟩
    go_simp
  simp only [Act.put, List.setIfInBounds_toArray]
  refine wpAnyH_ready (rs := [6]) (by kernel_rfl) (by simp) ?_
  refine AllReadyH.cons rfl (fun K hK => ?_) AllReadyH.nil
  rw [if_pos (by rfl)]
  go_simp
  have S3 : ((w2.setCell ⟨w.heap.size + 1, 0, none⟩ (.int .i64 x)).setCell ⟨w.heap.size + 1, 1, none⟩ (.slice (some ⟨g, 0, none⟩) l.length cap)).cell? ⟨w.heap.size, 0, none⟩ = some (.int .i64 x) ∧ ((w2.setCell ⟨w.heap.size + 1, 0, none⟩ (.int .i64 x)).setCell ⟨w.heap.size + 1, 1, none⟩ (.slice (some ⟨g, 0, none⟩) l.length cap)).cell? ⟨w.heap.size, 1, none⟩ = some (.slice a l.length c) := by
    simp only [set_far _ _ _ _ (show w.heap.size ≠ w.heap.size + 1 by omega)]
    exact S2
  refine hK.out _ _ S3 (fun _ => ?_)
  clear hK K
  refine wpAnyH_done (by kernel_rfl) ?_ _
  go_wp2_with fail
  have z0 : ((w2.setCell ⟨w.heap.size + 1, 0, none⟩ (.int .i64 x)).setCell ⟨w.heap.size + 1, 1, none⟩ (.slice (some ⟨g, 0, none⟩) l.length cap)).cell? ⟨w.heap.size + 1, 0, none⟩ = some (.int .i64 x) := by simp [go_sem, x0]
  have z1 : ((w2.setCell ⟨w.heap.size + 1, 0, none⟩ (.int .i64 x)).setCell ⟨w.heap.size + 1, 1, none⟩ (.slice (some ⟨g, 0, none⟩) l.length cap)).cell? ⟨w.heap.size + 1, 1, none⟩ = some (.slice (some ⟨g, 0, none⟩) l.length cap) := by simp [go_sem, x1]
  exact bodyPost_ret (v := .agg #[.int .i64 x, .slice (some ⟨g, 0, none⟩) l.length cap]) (by simp [results, Try.results118, go_sem, z0, z1]) rfl
    ⟨⟨g, cap, rfl, by omega, hcap, (ho.setOther (by omega) _ _).setOther (by omega) _ _⟩, (B2.setCell (by simp only; omega) _).setCell (by simp only; omega) _⟩

end Go.Proofs.Ytpfhegengmlkmac
/- Walks: freshItems. -/
namespace Go.Proofs.Ytpfhegengmlkmac
open Go.RowKit Go.BigFrame
set_option maxRecDepth 100000

set_option maxHeartbeats 1600000 in
theorem freshItems_any (a : Option Addr) (c : Nat) (l : List ItemL) (w : World) (hr : RowI w a l) (hn : l.length ≤ 1048576) (hl : ∀ k, (h : k < l.length) → StampP l[k].2) :
    Calls Try.prog 100 #[.slice a l.length c] w fun e w' => (∃ v, e = .returned v ∧ GathI w' w.heap.size v l) ∧ Below w.heap.size w w' := by
  obtain ⟨i0, hi, hz0, hz1, hz2⟩ := info_parts Try.infoI
  have hmk : ∀ u : World, (Instr.makeSlice 25 (.int .i64 0) (.int .i64 (l.length : Int))).run Try.prog u =
      .ok (.slice (some ⟨u.heap.size, 0, none⟩) 0 l.length) (u.alloc (.cells (madeCells #[.int .i64 0, .slice none 0 0] (l.length * 2)) 74)) := fun u => by
    have h := run_make (P := Try.prog) u 25 74 i0 (.agg #[.int .i64 0, .slice none 0 0]) Try.underlying25 hi hz0 .i64 .i64 0 (l.length : Int) (by omega) (by omega) (by rw [hz2]; omega) (by omega)
    simpa [hz1, Value.cells] using h
  have hb0 : Below w.heap.size w (w.alloc (.cells (madeCells #[.int .i64 0, .slice none 0 0] (l.length * 2)) 74)) := (Below.refl _ _).alloc (Nat.le_refl _) _
  have hg0 : GathI (w.alloc (.cells (madeCells #[.int .i64 0, .slice none 0 0] (l.length * 2)) 74)) w.heap.size (.slice (some ⟨w.heap.size, 0, none⟩) 0 l.length) [] :=
    ⟨[], rfl, ⟨rfl, .inr ⟨w.heap.size, l.length, madeCells #[.int .i64 0, .slice none 0 0] (l.length * 2), rfl, Nat.le_refl _, heap_alloc_new w _, Nat.zero_le _, by unfold maxLen; omega, size_madeCells _ _, rfl⟩⟩, by simp, List.Pairwise.nil⟩
  have HSL : Hid (∀ k, (h : k < l.length) → StampP l[k].2) := hl
  clear hl
  go_enter Try.func100, Try.ntmps100
  go_wp2_with fail
  generalize (w.alloc (.cells (madeCells #[.int .i64 0, .slice none 0 0] (l.length * 2)) 74)) = W1 at *
  clear hmk
  go_loopw [3, 11] (fun out i wr => ∃ k : Nat, k ≤ l.length ∧ i = .int .i64 k ∧ GathI wr w.heap.size out (l.take k) ∧ Below w.heap.size w wr) (fun _ i _ => l.length - (intOf i).toNat)
  case atStart => exact ⟨0, Nat.zero_le _, rfl, hg0, hb0⟩
  case round =>
    obtain ⟨k, hk, rfl, hg, hb⟩ := hrel
    clear hg0 hb0
    by_cases hlt : k < l.length
    · obtain ⟨b, o, rfl, hblt, c0, v, c1, ⟨sa, sc, rfl, hcap, hrow⟩⟩ := hr.below hb k hlt
      have k0 : (0 : Int) ≤ (k : Int) := by omega
      have k1 : (k : Int) < (l.length : Int) := by omega
      have HT : Hid (l.take (k + 1) = l.take k ++ [(l[k].1, l[k].2)]) := List.take_succ_eq_append_getElem hlt
      have htl : (l.take k).length ≤ 1048576 := by rw [List.length_take]; omega
      have hzr := hb.size
      have hst := HSL.out k hlt
      have hlk : l[k].2.length ≤ 1048576 := by have := hst.1; omega
      have HL : Hid (∀ j, (h : j < l[k].2.length) → l[k].2[j].1.size ≤ 281474976710656) := fun j hj => by have := (hst.2.1 j hj).1.2.1; omega
      clear hst
      go_wp2_with fail
      have b3 : Below wr.heap.size wr (wr.alloc (.cells #[.int .i64 l[k].1, .slice sa l[k].2.length sc] 74)) := (Below.refl _ _).alloc (Nat.le_refl _) _
      refine (freshItem_any l[k].1 sa sc l[k].2 _ (hrow.below b3) hlk HL.out).mono ?_
      rintro e w4 ⟨⟨gm, cm, rfl, hgm, hcm, ho⟩, b4⟩
      have b4' : Below wr.heap.size wr w4 := b3.trans (b4.mono b3.size)
      have z3 := b3.size
      have z4 := b4'.size
      have b5 : Below wr.heap.size wr (w4.alloc (.cells #[.int .i64 l[k].1, .slice (some ⟨gm, 0, none⟩) l[k].2.length cm] 74)) := b4'.alloc b4'.size _
      have hbx : Below w4.heap.size w4 (w4.alloc (.cells #[.int .i64 l[k].1, .slice (some ⟨gm, 0, none⟩) l[k].2.length cm] 74)) := (Below.refl _ _).alloc (Nat.le_refl _) _
      have ho5 := ho.below hbx
      have B5 : Below w.heap.size w (w4.alloc (.cells #[.int .i64 l[k].1, .slice (some ⟨gm, 0, none⟩) l[k].2.length cm] 74)) := hb.trans (b5.mono hzr)
      clear b3 b4 b4' hrow hbx ho
      go_wp2_with (at_builtin; refine wpList_append_item rfl _ _ rfl wr w.heap.size _ (l.take k) rfl hg b5 hzr w4.heap.size l[k].1 l[k].2 gm cm rfl (box0 _ _ _ _) (box1 _ _ _ _) ho5 (by omega) hcm htl ?_; intro v' w6 hg6 b6)
      exact ⟨⟨k + 1, by omega, by go_num, by rw [HT.out]; exact hg6, B5.trans b6⟩, by simp [intOf]; omega⟩
    · rw [List.take_of_length_le (by omega)] at hg
      go_wp2_with fail
      go_ret
      exact ⟨⟨_, rfl, hg⟩, hb⟩

end Go.Proofs.Ytpfhegengmlkmac
/- Walk: toGather. -/
namespace Go.Proofs.Ytpfhegengmlkmac
open Go.RowKit Go.BigFrame

theorem PartS.setOther {w : World} {b k : Nat} {l : List ByteArray} (h : PartS w b l k) {q : Nat} (hq : b ≠ q) (i : Nat) (v : Value) : PartS (w.setCell ⟨q, i, none⟩ v) b l k := by
  obtain ⟨f, h, hf⟩ := h
  exact ⟨f, h.of_block (Below.heap_setCell _ _ _ _ (by simp only; omega)), hf⟩
theorem PartW.setBelow {w : World} {lo T g k q : Nat} {ws : List (List ItemL)} (h : PartW w lo T g ws k) (hq : q < lo) (hg : g ≠ q) (i : Nat) (v : Value) : PartW (w.setCell ⟨q, i, none⟩ v) lo T g ws k := by
  obtain ⟨L, U, G, f, h, hf, hd⟩ := h
  refine ⟨L, U, G, f, h.of_block (Below.heap_setCell _ _ _ _ (by simp only; omega)), fun j hj hk => ?_, hd⟩
  obtain ⟨h1, h2, h3, h4, h5, h6⟩ := hf j hj hk
  exact ⟨h1, h2.setBelow (by omega) (by omega) _ _, h3, h4, h5, h6⟩

set_option maxHeartbeats 3200000 in
theorem toGather_any (a0 a1 a2 : Option Addr) (c0 c1 c2 : Nat) (g : GatL) (w : World) (r0 : RowS w a0 g.ins) (r1 : RowW w a1 g.wins) (r2 : Row w a2 g.shown) (hs : SmallG 1048576 g) :
    Calls Try.prog 45 #[.agg #[.slice a0 g.ins.length c0, .slice a1 g.wins.length c1, .slice a2 g.shown.length c2]] w fun e w' => (∃ b0 b1 b2 lo hi, e = .returned (.agg #[.slice (some ⟨b0, 0, none⟩) g.ins.length g.ins.length, .slice (some ⟨b1, 0, none⟩) g.wins.length g.wins.length, .slice (some ⟨b2, 0, none⟩) g.shown.length g.shown.length]) ∧
      w.heap.size ≤ b0 ∧ b0 < b1 ∧ b1 < lo ∧ hi ≤ b2 ∧ PartS w' b0 g.ins g.ins.length ∧ PartW w' lo hi b1 g.wins g.wins.length ∧ Own w' b2 g.shown) ∧ Below w.heap.size w w' := by
  have hl0 : g.ins.length ≤ 1048576 := by have := hs.ins.1; omega
  have hl1 : g.wins.length ≤ 1048576 := by have := hs.wins.1; omega
  have hl2 : g.shown.length ≤ 1048576 := by have := hs.shown.1; omega
  have hw : ∀ j, (h : j < g.wins.length) → g.wins[j].length ≤ 1048576 ∧ ∀ i, (h' : i < g.wins[j].length) → g.wins[j][i].2.length ≤ 1048576 := fun j hj => ⟨by have := (hs.wins.2 j hj).1; omega, fun i hi => by have := ((hs.wins.2 j hj).2 i hi).1; omega⟩
  clear hs
  have hb0 : Below w.heap.size w (((w.alloc (.cells #[.slice a0 g.ins.length c0, .slice a1 g.wins.length c1, .slice a2 g.shown.length c2] 63)).alloc (.cells #[.slice none 0 0, .slice none 0 0, .slice none 0 0] 53)).alloc (.cells #[.slice none 0 0, .slice none 0 0, .slice none 0 0] 53)) := (((Below.refl _ _).alloc (Nat.le_refl _) _).alloc (by simp) _).alloc (by simp; omega) _
  have hsz : (((w.alloc (.cells #[.slice a0 g.ins.length c0, .slice a1 g.wins.length c1, .slice a2 g.shown.length c2] 63)).alloc (.cells #[.slice none 0 0, .slice none 0 0, .slice none 0 0] 53)).alloc (.cells #[.slice none 0 0, .slice none 0 0, .slice none 0 0] 53)).heap.size = w.heap.size + 3 := by simp
  have x1 : (((w.alloc (.cells #[.slice a0 g.ins.length c0, .slice a1 g.wins.length c1, .slice a2 g.shown.length c2] 63)).alloc (.cells #[.slice none 0 0, .slice none 0 0, .slice none 0 0] 53)).alloc (.cells #[.slice none 0 0, .slice none 0 0, .slice none 0 0] 53)).cell? ⟨w.heap.size, 1, none⟩ = some (.slice a1 g.wins.length c1) := by simp [go_sem]
  have x2 : (((w.alloc (.cells #[.slice a0 g.ins.length c0, .slice a1 g.wins.length c1, .slice a2 g.shown.length c2] 63)).alloc (.cells #[.slice none 0 0, .slice none 0 0, .slice none 0 0] 53)).alloc (.cells #[.slice none 0 0, .slice none 0 0, .slice none 0 0] 53)).cell? ⟨w.heap.size, 2, none⟩ = some (.slice a2 g.shown.length c2) := by simp [go_sem]
  have y0 : (((w.alloc (.cells #[.slice a0 g.ins.length c0, .slice a1 g.wins.length c1, .slice a2 g.shown.length c2] 63)).alloc (.cells #[.slice none 0 0, .slice none 0 0, .slice none 0 0] 53)).alloc (.cells #[.slice none 0 0, .slice none 0 0, .slice none 0 0] 53)).cell? ⟨w.heap.size + 1, 0, none⟩ = some (.slice none 0 0) := by simp [go_sem]
  have fy0 : (((w.alloc (.cells #[.slice a0 g.ins.length c0, .slice a1 g.wins.length c1, .slice a2 g.shown.length c2] 63)).alloc (.cells #[.slice none 0 0, .slice none 0 0, .slice none 0 0] 53)).alloc (.cells #[.slice none 0 0, .slice none 0 0, .slice none 0 0] 53)).frozen? ⟨w.heap.size + 1, 0, none⟩ = false := by simp [go_sem]
  have y1 : (((w.alloc (.cells #[.slice a0 g.ins.length c0, .slice a1 g.wins.length c1, .slice a2 g.shown.length c2] 63)).alloc (.cells #[.slice none 0 0, .slice none 0 0, .slice none 0 0] 53)).alloc (.cells #[.slice none 0 0, .slice none 0 0, .slice none 0 0] 53)).cell? ⟨w.heap.size + 1, 1, none⟩ = some (.slice none 0 0) := by simp [go_sem]
  have fy1 : (((w.alloc (.cells #[.slice a0 g.ins.length c0, .slice a1 g.wins.length c1, .slice a2 g.shown.length c2] 63)).alloc (.cells #[.slice none 0 0, .slice none 0 0, .slice none 0 0] 53)).alloc (.cells #[.slice none 0 0, .slice none 0 0, .slice none 0 0] 53)).frozen? ⟨w.heap.size + 1, 1, none⟩ = false := by simp [go_sem]
  have y2 : (((w.alloc (.cells #[.slice a0 g.ins.length c0, .slice a1 g.wins.length c1, .slice a2 g.shown.length c2] 63)).alloc (.cells #[.slice none 0 0, .slice none 0 0, .slice none 0 0] 53)).alloc (.cells #[.slice none 0 0, .slice none 0 0, .slice none 0 0] 53)).cell? ⟨w.heap.size + 1, 2, none⟩ = some (.slice none 0 0) := by simp [go_sem]
  have fy2 : (((w.alloc (.cells #[.slice a0 g.ins.length c0, .slice a1 g.wins.length c1, .slice a2 g.shown.length c2] 63)).alloc (.cells #[.slice none 0 0, .slice none 0 0, .slice none 0 0] 53)).alloc (.cells #[.slice none 0 0, .slice none 0 0, .slice none 0 0] 53)).frozen? ⟨w.heap.size + 1, 2, none⟩ = false := by simp [go_sem]
  have z0 : (((w.alloc (.cells #[.slice a0 g.ins.length c0, .slice a1 g.wins.length c1, .slice a2 g.shown.length c2] 63)).alloc (.cells #[.slice none 0 0, .slice none 0 0, .slice none 0 0] 53)).alloc (.cells #[.slice none 0 0, .slice none 0 0, .slice none 0 0] 53)).cell? ⟨w.heap.size + 1 + 1, 0, none⟩ = some (.slice none 0 0) := by simp [go_sem]
  have fz0 : (((w.alloc (.cells #[.slice a0 g.ins.length c0, .slice a1 g.wins.length c1, .slice a2 g.shown.length c2] 63)).alloc (.cells #[.slice none 0 0, .slice none 0 0, .slice none 0 0] 53)).alloc (.cells #[.slice none 0 0, .slice none 0 0, .slice none 0 0] 53)).frozen? ⟨w.heap.size + 1 + 1, 0, none⟩ = false := by simp [go_sem]
  have z1 : (((w.alloc (.cells #[.slice a0 g.ins.length c0, .slice a1 g.wins.length c1, .slice a2 g.shown.length c2] 63)).alloc (.cells #[.slice none 0 0, .slice none 0 0, .slice none 0 0] 53)).alloc (.cells #[.slice none 0 0, .slice none 0 0, .slice none 0 0] 53)).cell? ⟨w.heap.size + 1 + 1, 1, none⟩ = some (.slice none 0 0) := by simp [go_sem]
  have fz1 : (((w.alloc (.cells #[.slice a0 g.ins.length c0, .slice a1 g.wins.length c1, .slice a2 g.shown.length c2] 63)).alloc (.cells #[.slice none 0 0, .slice none 0 0, .slice none 0 0] 53)).alloc (.cells #[.slice none 0 0, .slice none 0 0, .slice none 0 0] 53)).frozen? ⟨w.heap.size + 1 + 1, 1, none⟩ = false := by simp [go_sem]
  have z2 : (((w.alloc (.cells #[.slice a0 g.ins.length c0, .slice a1 g.wins.length c1, .slice a2 g.shown.length c2] 63)).alloc (.cells #[.slice none 0 0, .slice none 0 0, .slice none 0 0] 53)).alloc (.cells #[.slice none 0 0, .slice none 0 0, .slice none 0 0] 53)).cell? ⟨w.heap.size + 1 + 1, 2, none⟩ = some (.slice none 0 0) := by simp [go_sem]
  have fz2 : (((w.alloc (.cells #[.slice a0 g.ins.length c0, .slice a1 g.wins.length c1, .slice a2 g.shown.length c2] 63)).alloc (.cells #[.slice none 0 0, .slice none 0 0, .slice none 0 0] 53)).alloc (.cells #[.slice none 0 0, .slice none 0 0, .slice none 0 0] 53)).frozen? ⟨w.heap.size + 1 + 1, 2, none⟩ = false := by simp [go_sem]
  go_enter Try.func45, Try.ntmps45
  go_wp2_with fail
  generalize ((w.alloc (.cells #[.slice a0 g.ins.length c0, .slice a1 g.wins.length c1, .slice a2 g.shown.length c2] 63)).alloc (.cells #[.slice none 0 0, .slice none 0 0, .slice none 0 0] 53)).alloc (.cells #[.slice none 0 0, .slice none 0 0, .slice none 0 0] 53) = W0 at *
  refine (toStringS_any a0 c0 g.ins _ hl0 (r0.below hb0)).mono ?_
  rintro e w1 ⟨rfl, hp1, b1⟩
  have B1 : Below w.heap.size w w1 := hb0.trans (b1.mono hb0.size)
  have g1 := hp1.lt
  rw [hsz] at hp1 g1
  replace x1 := cell_on b1 (by omega) x1
  replace x2 := cell_on b1 (by omega) x2
  replace y0 := cell_on b1 (by omega) y0
  replace y1 := cell_on b1 (by omega) y1
  replace y2 := cell_on b1 (by omega) y2
  replace z0 := cell_on b1 (by omega) z0
  replace z1 := cell_on b1 (by omega) z1
  replace z2 := cell_on b1 (by omega) z2
  replace fy0 := (b1.frozen (p := ⟨w.heap.size + 1, 0, none⟩) (by simp only; omega)).trans fy0
  replace fy1 := (b1.frozen (p := ⟨w.heap.size + 1, 1, none⟩) (by simp only; omega)).trans fy1
  replace fy2 := (b1.frozen (p := ⟨w.heap.size + 1, 2, none⟩) (by simp only; omega)).trans fy2
  replace fz0 := (b1.frozen (p := ⟨w.heap.size + 1 + 1, 0, none⟩) (by simp only; omega)).trans fz0
  replace fz1 := (b1.frozen (p := ⟨w.heap.size + 1 + 1, 1, none⟩) (by simp only; omega)).trans fz1
  replace fz2 := (b1.frozen (p := ⟨w.heap.size + 1 + 1, 2, none⟩) (by simp only; omega)).trans fz2
  clear b1 hb0
  go_wp2_with fail
  have hs0 : (w1.setCell ⟨w.heap.size + 1 + 1, 0, none⟩ (.slice (some ⟨w.heap.size + 3, 0, none⟩) g.ins.length g.ins.length)).heap.size = w1.heap.size := by simp
  replace x1 : (w1.setCell ⟨w.heap.size + 1 + 1, 0, none⟩ (.slice (some ⟨w.heap.size + 3, 0, none⟩) g.ins.length g.ins.length)).cell? ⟨w.heap.size, 1, none⟩ = some (.slice a1 g.wins.length c1) := by simp [go_sem, x1]
  replace x2 : (w1.setCell ⟨w.heap.size + 1 + 1, 0, none⟩ (.slice (some ⟨w.heap.size + 3, 0, none⟩) g.ins.length g.ins.length)).cell? ⟨w.heap.size, 2, none⟩ = some (.slice a2 g.shown.length c2) := by simp [go_sem, x2]
  replace y0 : (w1.setCell ⟨w.heap.size + 1 + 1, 0, none⟩ (.slice (some ⟨w.heap.size + 3, 0, none⟩) g.ins.length g.ins.length)).cell? ⟨w.heap.size + 1, 0, none⟩ = some (.slice none 0 0) := by simp [go_sem, y0]
  replace y1 : (w1.setCell ⟨w.heap.size + 1 + 1, 0, none⟩ (.slice (some ⟨w.heap.size + 3, 0, none⟩) g.ins.length g.ins.length)).cell? ⟨w.heap.size + 1, 1, none⟩ = some (.slice none 0 0) := by simp [go_sem, y1]
  replace y2 : (w1.setCell ⟨w.heap.size + 1 + 1, 0, none⟩ (.slice (some ⟨w.heap.size + 3, 0, none⟩) g.ins.length g.ins.length)).cell? ⟨w.heap.size + 1, 2, none⟩ = some (.slice none 0 0) := by simp [go_sem, y2]
  replace z0 : (w1.setCell ⟨w.heap.size + 1 + 1, 0, none⟩ (.slice (some ⟨w.heap.size + 3, 0, none⟩) g.ins.length g.ins.length)).cell? ⟨w.heap.size + 1 + 1, 0, none⟩ = some (.slice (some ⟨w.heap.size + 3, 0, none⟩) g.ins.length g.ins.length) := by simp [go_sem, z0]
  replace z1 : (w1.setCell ⟨w.heap.size + 1 + 1, 0, none⟩ (.slice (some ⟨w.heap.size + 3, 0, none⟩) g.ins.length g.ins.length)).cell? ⟨w.heap.size + 1 + 1, 1, none⟩ = some (.slice none 0 0) := by simp [go_sem, z1]
  replace z2 : (w1.setCell ⟨w.heap.size + 1 + 1, 0, none⟩ (.slice (some ⟨w.heap.size + 3, 0, none⟩) g.ins.length g.ins.length)).cell? ⟨w.heap.size + 1 + 1, 2, none⟩ = some (.slice none 0 0) := by simp [go_sem, z2]
  replace fy0 : (w1.setCell ⟨w.heap.size + 1 + 1, 0, none⟩ (.slice (some ⟨w.heap.size + 3, 0, none⟩) g.ins.length g.ins.length)).frozen? ⟨w.heap.size + 1, 0, none⟩ = false := by simp [go_sem, fy0]
  replace fy1 : (w1.setCell ⟨w.heap.size + 1 + 1, 0, none⟩ (.slice (some ⟨w.heap.size + 3, 0, none⟩) g.ins.length g.ins.length)).frozen? ⟨w.heap.size + 1, 1, none⟩ = false := by simp [go_sem, fy1]
  replace fy2 : (w1.setCell ⟨w.heap.size + 1 + 1, 0, none⟩ (.slice (some ⟨w.heap.size + 3, 0, none⟩) g.ins.length g.ins.length)).frozen? ⟨w.heap.size + 1, 2, none⟩ = false := by simp [go_sem, fy2]
  replace fz0 : (w1.setCell ⟨w.heap.size + 1 + 1, 0, none⟩ (.slice (some ⟨w.heap.size + 3, 0, none⟩) g.ins.length g.ins.length)).frozen? ⟨w.heap.size + 1 + 1, 0, none⟩ = false := by simp [go_sem, fz0]
  replace fz1 : (w1.setCell ⟨w.heap.size + 1 + 1, 0, none⟩ (.slice (some ⟨w.heap.size + 3, 0, none⟩) g.ins.length g.ins.length)).frozen? ⟨w.heap.size + 1 + 1, 1, none⟩ = false := by simp [go_sem, fz1]
  replace fz2 : (w1.setCell ⟨w.heap.size + 1 + 1, 0, none⟩ (.slice (some ⟨w.heap.size + 3, 0, none⟩) g.ins.length g.ins.length)).frozen? ⟨w.heap.size + 1 + 1, 2, none⟩ = false := by simp [go_sem, fz2]
  replace B1 : Below w.heap.size w (w1.setCell ⟨w.heap.size + 1 + 1, 0, none⟩ (.slice (some ⟨w.heap.size + 3, 0, none⟩) g.ins.length g.ins.length)) := B1.setCell (by simp only; omega) _
  replace hp1 : PartS (w1.setCell ⟨w.heap.size + 1 + 1, 0, none⟩ (.slice (some ⟨w.heap.size + 3, 0, none⟩) g.ins.length g.ins.length)) (w.heap.size + 3) g.ins g.ins.length := hp1.setOther (by omega) _ _
  generalize w1.setCell ⟨w.heap.size + 1 + 1, 0, none⟩ (.slice (some ⟨w.heap.size + 3, 0, none⟩) g.ins.length g.ins.length) = W1 at *
  replace hs0 : w1.heap.size ≤ W1.heap.size := by omega
  refine (toItemSS_any a1 c1 g.wins _ hl1 hw (r1.below B1)).mono ?_
  rintro e w2 ⟨rfl, hp2, b2⟩
  have B2 : Below w.heap.size w w2 := B1.trans (b2.mono B1.size)
  have g2 := hp2.lt
  have z2' := b2.size
  replace hp1 := hp1.below (by omega) b2
  replace x2 := cell_on b2 (by omega) x2
  replace y0 := cell_on b2 (by omega) y0
  replace y1 := cell_on b2 (by omega) y1
  replace y2 := cell_on b2 (by omega) y2
  replace z0 := cell_on b2 (by omega) z0
  replace z1 := cell_on b2 (by omega) z1
  replace z2 := cell_on b2 (by omega) z2
  replace fy0 := (b2.frozen (p := ⟨w.heap.size + 1, 0, none⟩) (by simp only; omega)).trans fy0
  replace fy1 := (b2.frozen (p := ⟨w.heap.size + 1, 1, none⟩) (by simp only; omega)).trans fy1
  replace fy2 := (b2.frozen (p := ⟨w.heap.size + 1, 2, none⟩) (by simp only; omega)).trans fy2
  replace fz0 := (b2.frozen (p := ⟨w.heap.size + 1 + 1, 0, none⟩) (by simp only; omega)).trans fz0
  replace fz1 := (b2.frozen (p := ⟨w.heap.size + 1 + 1, 1, none⟩) (by simp only; omega)).trans fz1
  replace fz2 := (b2.frozen (p := ⟨w.heap.size + 1 + 1, 2, none⟩) (by simp only; omega)).trans fz2
  clear b2 B1 x1
  generalize W1.heap.size = lo at *
  go_wp2_with fail
  have hs1 : (w2.setCell ⟨w.heap.size + 1 + 1, 1, none⟩ (.slice (some ⟨lo, 0, none⟩) g.wins.length g.wins.length)).heap.size = w2.heap.size := by simp
  replace x2 : (w2.setCell ⟨w.heap.size + 1 + 1, 1, none⟩ (.slice (some ⟨lo, 0, none⟩) g.wins.length g.wins.length)).cell? ⟨w.heap.size, 2, none⟩ = some (.slice a2 g.shown.length c2) := by simp [go_sem, x2]
  replace y0 : (w2.setCell ⟨w.heap.size + 1 + 1, 1, none⟩ (.slice (some ⟨lo, 0, none⟩) g.wins.length g.wins.length)).cell? ⟨w.heap.size + 1, 0, none⟩ = some (.slice none 0 0) := by simp [go_sem, y0]
  replace y1 : (w2.setCell ⟨w.heap.size + 1 + 1, 1, none⟩ (.slice (some ⟨lo, 0, none⟩) g.wins.length g.wins.length)).cell? ⟨w.heap.size + 1, 1, none⟩ = some (.slice none 0 0) := by simp [go_sem, y1]
  replace y2 : (w2.setCell ⟨w.heap.size + 1 + 1, 1, none⟩ (.slice (some ⟨lo, 0, none⟩) g.wins.length g.wins.length)).cell? ⟨w.heap.size + 1, 2, none⟩ = some (.slice none 0 0) := by simp [go_sem, y2]
  replace z0 : (w2.setCell ⟨w.heap.size + 1 + 1, 1, none⟩ (.slice (some ⟨lo, 0, none⟩) g.wins.length g.wins.length)).cell? ⟨w.heap.size + 1 + 1, 0, none⟩ = some (.slice (some ⟨w.heap.size + 3, 0, none⟩) g.ins.length g.ins.length) := by simp [go_sem, z0]
  replace z1 : (w2.setCell ⟨w.heap.size + 1 + 1, 1, none⟩ (.slice (some ⟨lo, 0, none⟩) g.wins.length g.wins.length)).cell? ⟨w.heap.size + 1 + 1, 1, none⟩ = some (.slice (some ⟨lo, 0, none⟩) g.wins.length g.wins.length) := by simp [go_sem, z1]
  replace z2 : (w2.setCell ⟨w.heap.size + 1 + 1, 1, none⟩ (.slice (some ⟨lo, 0, none⟩) g.wins.length g.wins.length)).cell? ⟨w.heap.size + 1 + 1, 2, none⟩ = some (.slice none 0 0) := by simp [go_sem, z2]
  replace fy0 : (w2.setCell ⟨w.heap.size + 1 + 1, 1, none⟩ (.slice (some ⟨lo, 0, none⟩) g.wins.length g.wins.length)).frozen? ⟨w.heap.size + 1, 0, none⟩ = false := by simp [go_sem, fy0]
  replace fy1 : (w2.setCell ⟨w.heap.size + 1 + 1, 1, none⟩ (.slice (some ⟨lo, 0, none⟩) g.wins.length g.wins.length)).frozen? ⟨w.heap.size + 1, 1, none⟩ = false := by simp [go_sem, fy1]
  replace fy2 : (w2.setCell ⟨w.heap.size + 1 + 1, 1, none⟩ (.slice (some ⟨lo, 0, none⟩) g.wins.length g.wins.length)).frozen? ⟨w.heap.size + 1, 2, none⟩ = false := by simp [go_sem, fy2]
  replace fz0 : (w2.setCell ⟨w.heap.size + 1 + 1, 1, none⟩ (.slice (some ⟨lo, 0, none⟩) g.wins.length g.wins.length)).frozen? ⟨w.heap.size + 1 + 1, 0, none⟩ = false := by simp [go_sem, fz0]
  replace fz1 : (w2.setCell ⟨w.heap.size + 1 + 1, 1, none⟩ (.slice (some ⟨lo, 0, none⟩) g.wins.length g.wins.length)).frozen? ⟨w.heap.size + 1 + 1, 1, none⟩ = false := by simp [go_sem, fz1]
  replace fz2 : (w2.setCell ⟨w.heap.size + 1 + 1, 1, none⟩ (.slice (some ⟨lo, 0, none⟩) g.wins.length g.wins.length)).frozen? ⟨w.heap.size + 1 + 1, 2, none⟩ = false := by simp [go_sem, fz2]
  replace B2 : Below w.heap.size w (w2.setCell ⟨w.heap.size + 1 + 1, 1, none⟩ (.slice (some ⟨lo, 0, none⟩) g.wins.length g.wins.length)) := B2.setCell (by simp only; omega) _
  replace hp1 : PartS (w2.setCell ⟨w.heap.size + 1 + 1, 1, none⟩ (.slice (some ⟨lo, 0, none⟩) g.wins.length g.wins.length)) (w.heap.size + 3) g.ins g.ins.length := hp1.setOther (by omega) _ _
  replace hp2 : PartW (w2.setCell ⟨w.heap.size + 1 + 1, 1, none⟩ (.slice (some ⟨lo, 0, none⟩) g.wins.length g.wins.length)) (lo + 1) w2.heap.size lo g.wins g.wins.length := hp2.setBelow (by omega) (by omega) _ _
  generalize w2.setCell ⟨w.heap.size + 1 + 1, 1, none⟩ (.slice (some ⟨lo, 0, none⟩) g.wins.length g.wins.length) = W2 at *
  replace hs1 : w2.heap.size ≤ W2.heap.size := by omega
  refine (toMarkS_any a2 c2 g.shown _ hl2 (r2.below B2)).mono ?_
  rintro e w3 ⟨rfl, hp3, b3⟩
  have B3 : Below w.heap.size w w3 := B2.trans (b3.mono B2.size)
  have g3 := hp3.lt
  have z3' := b3.size
  replace hp1 := hp1.below (by omega) b3
  replace hp2 := hp2.below b3
  replace y0 := cell_on b3 (by omega) y0
  replace y1 := cell_on b3 (by omega) y1
  replace y2 := cell_on b3 (by omega) y2
  replace z0 := cell_on b3 (by omega) z0
  replace z1 := cell_on b3 (by omega) z1
  replace z2 := cell_on b3 (by omega) z2
  replace fy0 := (b3.frozen (p := ⟨w.heap.size + 1, 0, none⟩) (by simp only; omega)).trans fy0
  replace fy1 := (b3.frozen (p := ⟨w.heap.size + 1, 1, none⟩) (by simp only; omega)).trans fy1
  replace fy2 := (b3.frozen (p := ⟨w.heap.size + 1, 2, none⟩) (by simp only; omega)).trans fy2
  replace fz0 := (b3.frozen (p := ⟨w.heap.size + 1 + 1, 0, none⟩) (by simp only; omega)).trans fz0
  replace fz1 := (b3.frozen (p := ⟨w.heap.size + 1 + 1, 1, none⟩) (by simp only; omega)).trans fz1
  replace fz2 := (b3.frozen (p := ⟨w.heap.size + 1 + 1, 2, none⟩) (by simp only; omega)).trans fz2
  clear b3 B2 x2
  generalize W2.heap.size = hi at *
  go_wp2_with fail
  have e0 : ((((w3.setCell ⟨w.heap.size + 1 + 1, 2, none⟩ (.slice (some ⟨hi, 0, none⟩) g.shown.length g.shown.length)).setCell ⟨w.heap.size + 1, 0, none⟩ (.slice (some ⟨w.heap.size + 3, 0, none⟩) g.ins.length g.ins.length)).setCell ⟨w.heap.size + 1, 1, none⟩ (.slice (some ⟨lo, 0, none⟩) g.wins.length g.wins.length)).setCell ⟨w.heap.size + 1, 2, none⟩ (.slice (some ⟨hi, 0, none⟩) g.shown.length g.shown.length)).cell? ⟨w.heap.size + 1, 0, none⟩ = some (.slice (some ⟨w.heap.size + 3, 0, none⟩) g.ins.length g.ins.length) := by simp [go_sem, y0]
  have e1 : ((((w3.setCell ⟨w.heap.size + 1 + 1, 2, none⟩ (.slice (some ⟨hi, 0, none⟩) g.shown.length g.shown.length)).setCell ⟨w.heap.size + 1, 0, none⟩ (.slice (some ⟨w.heap.size + 3, 0, none⟩) g.ins.length g.ins.length)).setCell ⟨w.heap.size + 1, 1, none⟩ (.slice (some ⟨lo, 0, none⟩) g.wins.length g.wins.length)).setCell ⟨w.heap.size + 1, 2, none⟩ (.slice (some ⟨hi, 0, none⟩) g.shown.length g.shown.length)).cell? ⟨w.heap.size + 1, 1, none⟩ = some (.slice (some ⟨lo, 0, none⟩) g.wins.length g.wins.length) := by simp [go_sem, y1]
  have e2 : ((((w3.setCell ⟨w.heap.size + 1 + 1, 2, none⟩ (.slice (some ⟨hi, 0, none⟩) g.shown.length g.shown.length)).setCell ⟨w.heap.size + 1, 0, none⟩ (.slice (some ⟨w.heap.size + 3, 0, none⟩) g.ins.length g.ins.length)).setCell ⟨w.heap.size + 1, 1, none⟩ (.slice (some ⟨lo, 0, none⟩) g.wins.length g.wins.length)).setCell ⟨w.heap.size + 1, 2, none⟩ (.slice (some ⟨hi, 0, none⟩) g.shown.length g.shown.length)).cell? ⟨w.heap.size + 1, 2, none⟩ = some (.slice (some ⟨hi, 0, none⟩) g.shown.length g.shown.length) := by simp [go_sem, y2]
  exact bodyPost_ret (v := .agg #[.slice (some ⟨w.heap.size + 3, 0, none⟩) g.ins.length g.ins.length, .slice (some ⟨lo, 0, none⟩) g.wins.length g.wins.length, .slice (some ⟨hi, 0, none⟩) g.shown.length g.shown.length]) (by simp [results, Try.results45, go_sem, e0, e1, e2]) rfl
    ⟨⟨w.heap.size + 3, lo, hi, lo + 1, w2.heap.size, rfl, by omega, by omega, by omega, by omega, (((hp1.setOther (by omega) _ _).setOther (by omega) _ _).setOther (by omega) _ _).setOther (by omega) _ _, (((hp2.setBelow (by omega) (by omega) _ _).setBelow (by omega) (by omega) _ _).setBelow (by omega) (by omega) _ _).setBelow (by omega) (by omega) _ _, (((hp3.setOther (by omega) _ _).setOther (by omega) _ _).setOther (by omega) _ _).setOther (by omega) _ _⟩,
      (((B3.setCell (by simp only; omega) _).setCell (by simp only; omega) _).setCell (by simp only; omega) _).setCell (by simp only; omega) _⟩

end Go.Proofs.Ytpfhegengmlkmac
/- Walks: insOk, l4Ins: which inputs may be. -/
namespace Go.Proofs.Ytpfhegengmlkmac
open Go.RowKit Go.BigFrame

/-- From 1 to 6 names, no two alike. -/
def InsP (l : List ByteArray) : Prop := 1 ≤ l.length ∧ l.length ≤ 6 ∧ ∀ i, (h : i < l.length) → NameP l[i] ∧ ∀ k, (hk : k < i) → l[k] ≠ l[i]
/-- The first k of them are so. -/
def InsTo (l : List ByteArray) (n : Nat) : Prop := ∀ i, (h : i < l.length) → i < n → NameP l[i] ∧ ∀ k, (hk : k < i) → l[k] ≠ l[i]
theorem insTo_step {l : List ByteArray} {n : Nat} (h : InsTo l n) (hn : n < l.length) (h1 : NameP l[n]) (h2 : ∀ k, (hk : k < n) → l[k] ≠ l[n]) : InsTo l (n + 1) := fun i hi hlt => by
  by_cases e : i = n
  · subst e; exact ⟨h1, h2⟩
  · exact h i hi (by omega)
theorem RowS.take {w : World} {b o : Nat} {l : List ByteArray} (h : RowS w (some ⟨b, o, none⟩) l) (k : Nat) : RowS w (some ⟨b, o, none⟩) (l.take k) := fun j hj => by
  rw [List.length_take] at hj
  obtain ⟨b', o', e, h1, h2⟩ := h j (by omega)
  exact ⟨b', o', e, h1, by rw [List.getElem_take]; exact h2⟩

set_option maxHeartbeats 800000 in
theorem insOk_any (a : Option Addr) (cap : Nat) (l : List ByteArray) (w : World) (hl : l.length ≤ 1048576) (hc : l.length ≤ cap) (hc2 : cap ≤ maxLen) (hr : RowS w a l) (hs : ∀ j, (h : j < l.length) → l[j].size ≤ maxLen) :
    Calls Try.prog 70 #[.slice a l.length cap] w fun e w' => IsB (InsP l) e ∧ w' = w := by
  unfold maxLen at hc2
  by_cases h1 : l.length < 1
  · go_enter Try.func70, Try.ntmps70
    go_wp2_with fail
    go_ret
    exact ⟨isB_false (fun h => by have := h.1; omega), rfl⟩
  by_cases h6 : 6 < l.length
  · go_enter Try.func70, Try.ntmps70
    go_wp2_with fail
    go_ret
    exact ⟨isB_false (fun h => by have := h.2.1; omega), rfl⟩
  go_enter Try.func70, Try.ntmps70
  go_wp2_with fail
  go_loopw [15] (fun i wr => ∃ k : Nat, k ≤ l.length ∧ i = .int .i64 k ∧ Hid (InsTo l k) ∧ wr = w) (fun i _ => l.length - (intOf i).toNat)
  case atStart => exact ⟨0, Nat.zero_le _, rfl, fun _ _ h => absurd h (Nat.not_lt_zero _), rfl⟩
  case round =>
    obtain ⟨k, hk, rfl, HI, rfl⟩ := hrel
    by_cases hlt : k < l.length
    · obtain ⟨b, o, rfl, hblt, c0⟩ := hr k hlt
      have k0 : (0 : Int) ≤ (k : Int) := by omega
      have k1 : (k : Int) < (l.length : Int) := by omega
      have HS := hs k hlt
      have HT : Hid (∀ u : World, u = wr → Calls Try.prog 97 #[.slice (some ⟨b, o, none⟩) k cap, .string l[k]] u fun e w' => e = .returned (.bool (amongB (l.take k) l[k])) ∧ w' = u) := fun u hu => by
        have h := contains_any (some ⟨b, o, none⟩) cap (l.take k) l[k] u (by rw [List.length_take]; omega) (hu ▸ hr.take k)
        rwa [List.length_take, Nat.min_eq_left (by omega)] at h
      go_wp2_with fail
      refine (nameOk_any l[k] _ HS).mono ?_
      rintro e w1 ⟨⟨r, rfl, hr1⟩, rfl⟩
      have HR : Hid (r = true ↔ NameP l[k]) := hr1
      clear hr1
      cases r with
      | false =>
        have HN : Hid (¬ InsP l) := fun h => by have h3 := (h.2.2 k hlt).1; have := HR.out.2 h3; simp at this
        go_wp2_with fail
        go_ret
        exact ⟨isB_false HN.out, rfl⟩
      | true =>
        have HP : Hid (NameP l[k]) := HR.out.1 rfl
        go_wp2_with fail
        refine (HT.out _ rfl).mono ?_
        rintro e w1 ⟨rfl, rfl⟩
        cases hq : amongB (l.take k) l[k] with
        | false =>
          have HST : Hid (InsTo l (k + 1)) := insTo_step HI.out hlt HP.out (fun j hj he => by
            have := (among_iff (names := l.take k) (s := l[k])).2 ⟨j, by rw [List.length_take]; omega, by rw [List.getElem_take]; exact he⟩
            rw [hq] at this
            cases this)
          go_wp2_with fail
          exact ⟨⟨k + 1, by omega, by go_num, HST, by trivial⟩, by simp [intOf]; omega⟩
        | true =>
          have HN : Hid (¬ InsP l) := fun h => by
            obtain ⟨j, hj, he⟩ := among_iff.1 hq
            rw [List.length_take] at hj
            rw [List.getElem_take] at he
            exact (h.2.2 k hlt).2 j (by omega) he
          go_wp2_with fail
          go_ret
          exact ⟨isB_false HN.out, rfl⟩
    · have HF : Hid (InsP l) := ⟨by omega, by omega, fun i hi => HI.out i hi (by omega)⟩
      go_wp2_with fail
      go_ret
      exact ⟨isB_true HF.out, rfl⟩

end Go.Proofs.Ytpfhegengmlkmac
/- Walks: l4Ins. -/
namespace Go.Proofs.Ytpfhegengmlkmac
open Go.RowKit Go.BigFrame

set_option maxHeartbeats 800000 in
theorem l4Ins_any (a : Option Addr) (cap : Nat) (l : List ByteArray) (w : World) (hl : l.length ≤ 1048576) (hr : RowS w a l) (hs : ∀ j, (h : j < l.length) → l[j].size ≤ maxLen) :
    Calls Try.prog 69 #[.slice a l.length cap] w fun e w' => IsB (InsP l) e ∧ Below w.heap.size w w' := by
  by_cases h1 : l.length < 1
  · go_enter Try.func69, Try.ntmps69
    go_wp2_with fail
    go_ret
    exact ⟨isB_false (fun h => by have := h.1; omega), Below.refl _ _⟩
  by_cases h6 : 6 < l.length
  · go_enter Try.func69, Try.ntmps69
    go_wp2_with fail
    go_ret
    exact ⟨isB_false (fun h => by have := h.2.1; omega), Below.refl _ _⟩
  go_enter Try.func69, Try.ntmps69
  go_wp2_with fail
  go_loopw [3] (fun i wr => ∃ k : Nat, k ≤ l.length ∧ i = .int .i64 k ∧ Hid (InsTo l k) ∧ Below w.heap.size w wr) (fun i _ => l.length - (intOf i).toNat)
  case atStart => exact ⟨0, Nat.zero_le _, rfl, fun _ _ h => absurd h (Nat.not_lt_zero _), Below.refl _ _⟩
  case round =>
    obtain ⟨k, hk, rfl, HI, hbl⟩ := hrel
    by_cases hlt : k < l.length
    · obtain ⟨b, o, rfl, hblt, c0⟩ := hr.below hbl k hlt
      have k0 : (0 : Int) ≤ (k : Int) := by omega
      have k1 : (k : Int) < (l.length : Int) := by omega
      have HS := hs k hlt
      go_wp2_with fail
      refine (l1Name_any l[k] _ HS).mono ?_
      rintro e w1 ⟨⟨r, rfl, hr1⟩, rfl⟩
      have HR : Hid (r = true ↔ NameP l[k]) := hr1
      clear hr1
      cases r with
      | false =>
        have HN : Hid (¬ InsP l) := fun h => by have h3 := (h.2.2 k hlt).1; have := HR.out.2 h3; simp at this
        go_wp2_with fail
        go_ret
        exact ⟨isB_false HN.out, hbl⟩
      | true =>
        have HP : Hid (NameP l[k]) := HR.out.1 rfl
        clear HR
        go_wp2_with fail
        go_loopw [4] (fun i2 wr2 => ∃ j : Nat, j ≤ k ∧ i2 = .int .i64 j ∧ Hid (∀ q, (hq : q < j) → (hl : q < l.length) → l[q] ≠ l[k]) ∧ Below w.heap.size w wr2) (fun i2 _ => k - (intOf i2).toNat)
        case atStart => exact ⟨0, Nat.zero_le _, rfl, fun _ h => absurd h (Nat.not_lt_zero _), hbl⟩
        case round =>
          obtain ⟨j, hj, rfl, HJ, hbl2⟩ := hrel
          by_cases hjlt : j < k
          · have hjl : j < l.length := by omega
            obtain ⟨b1, o1, e1, hb1, c1⟩ := hr.below hbl2 j hjl
            obtain ⟨b2, o2, e2, hb2, c2⟩ := hr.below hbl2 k hlt
            cases e1
            cases e2
            have j0 : (0 : Int) ≤ (j : Int) := by omega
            have j1 : (j : Int) < (l.length : Int) := by omega
            by_cases he : l[j] = l[k]
            · have hb' : (l[j].toList == l[k].toList) = true := toList_beq.2 he
              have HN : Hid (¬ InsP l) := fun h => (h.2.2 k hlt).2 j hjlt he
              go_wp2_with fail
              go_quiet (fail)
              go_wp2_with fail
              go_ret
              exact ⟨isB_false HN.out, below_drewN hbl2 _⟩
            · have hb' : (l[j].toList == l[k].toList) = false := toList_bne.2 he
              have HJ2 : Hid (∀ q, (hq : q < j + 1) → (hl : q < l.length) → l[q] ≠ l[k]) := fun q hq hl => by
                by_cases e : q = j
                · subst e; exact he
                · exact HJ.out q (by omega) hl
              go_wp2_with fail
              go_quiet (fail)
              go_wp2_with fail
              exact ⟨⟨j + 1, by omega, by go_num, HJ2, below_drewN hbl2 _⟩, by simp [intOf]; omega⟩
          · have HST : Hid (InsTo l (k + 1)) := insTo_step HI.out hlt HP.out (fun q hq => HJ.out q (by omega) (by omega))
            go_wp2_with fail
            exact ⟨⟨k + 1, by omega, by go_num, HST, hbl2⟩, by simp [intOf]; omega⟩
    · have HF : Hid (InsP l) := ⟨by omega, by omega, fun i hi => HI.out i hi (by omega)⟩
      go_wp2_with fail
      go_ret
      exact ⟨isB_true HF.out, hbl⟩

end Go.Proofs.Ytpfhegengmlkmac
/- The walk of impl.WindowOk and of the law FnExactWindowOk. -/
namespace Go.Proofs.Ytpfhegengmlkmac
open Go.RowKit Go.BigFrame
set_option maxRecDepth 100000

theorem fit_small {l : List ItemL} (h : SmallI 1048576 l) : l.length ≤ 1048576 ∧ ∀ j, (hj : j < l.length) → l[j].2.length ≤ 1048576 := ⟨by have := h.1; omega, fun j hj => by have := (h.2 j hj).1; omega⟩

set_option maxHeartbeats 800000 in
theorem implWinOk_any (a : Option Addr) (cap : Nat) (l : List ItemL) (w : World) (hf : FitI l) (hr : RowI w a l) :
    Calls Try.prog 77 #[.slice a l.length cap] w fun e w' => IsB (WinP l) e ∧ Below w.heap.size w w' := by
  go_enter Try.func77, Try.ntmps77
  go_wp2_with fail
  refine (readWindow_any a cap l _ hf hr).mono ?_
  rintro e w1 ⟨hE, b1⟩
  rcases hE with ⟨v, rfl, hp, hv⟩ | ⟨v, rfl, hp, hv⟩
  · have HP : Hid (WinP l) := hp
    clear hp
    obtain ⟨x0, x1, x2, x3, a0, a1, a2, a3, n0, n1, n2, n3, c0, c1, c2, c3, rfl, _⟩ := hv.laid
    go_wp2_with fail
    go_ret
    exact ⟨isB_true HP.out, b1.alloc b1.size _⟩
  · have HP : Hid (¬ WinP l) := hp
    clear hp
    obtain ⟨x0, x1, x2, x3, a0, a1, a2, a3, n0, n1, n2, n3, c0, c1, c2, c3, rfl, _⟩ := hv.laid
    go_wp2_with fail
    go_ret
    exact ⟨isB_false HP.out, b1.alloc b1.size _⟩

end Go.Proofs.Ytpfhegengmlkmac
/- Walks: spec.GatherOk, impl.GatherOk. -/
namespace Go.Proofs.Ytpfhegengmlkmac
open Go.RowKit Go.BigFrame

/-- A gather that may be. -/
structure GatP (g : GatL) : Prop where
  ins : InsP g.ins
  len : g.wins.length = g.ins.length
  wins : OkW g.wins
  shown : StampP g.shown

set_option maxHeartbeats 800000 in
theorem specGOk_any (a0 a1 a2 : Option Addr) (c0 c1 c2 : Nat) (g : GatL) (w : World) (hf : FitG g) (hi : g.ins.length ≤ 1048576) (r0 : RowS w a0 g.ins) (r1 : RowW w a1 g.wins) (r2 : Row w a2 g.shown) :
    Calls Try.prog 44 #[.agg #[.slice a0 g.ins.length c0, .slice a1 g.wins.length c1, .slice a2 g.shown.length c2]] w fun e w' => IsB (GatP g) e ∧ Below w.heap.size w w' := by
  have hl := hf.wins.1
  unfold maxLen at hl
  have hb0 : Below w.heap.size w (w.alloc (.cells #[.slice a0 g.ins.length c0, .slice a1 g.wins.length c1, .slice a2 g.shown.length c2] 53)) := (Below.refl _ _).alloc (Nat.le_refl _) _
  have hlt := box_lt w (.cells #[.slice a0 g.ins.length c0, .slice a1 g.wins.length c1, .slice a2 g.shown.length c2] 53)
  have d0 : (w.alloc (.cells #[.slice a0 g.ins.length c0, .slice a1 g.wins.length c1, .slice a2 g.shown.length c2] 53)).cell? ⟨w.heap.size, 0, none⟩ = some (.slice a0 g.ins.length c0) := by simp [go_sem]
  have d1 : (w.alloc (.cells #[.slice a0 g.ins.length c0, .slice a1 g.wins.length c1, .slice a2 g.shown.length c2] 53)).cell? ⟨w.heap.size, 1, none⟩ = some (.slice a1 g.wins.length c1) := by simp [go_sem]
  have d2 : (w.alloc (.cells #[.slice a0 g.ins.length c0, .slice a1 g.wins.length c1, .slice a2 g.shown.length c2] 53)).cell? ⟨w.heap.size, 2, none⟩ = some (.slice a2 g.shown.length c2) := by simp [go_sem]
  go_enter Try.func44, Try.ntmps44
  go_wp2_with fail
  generalize w.alloc (.cells #[.slice a0 g.ins.length c0, .slice a1 g.wins.length c1, .slice a2 g.shown.length c2] 53) = W0 at *
  refine (l4Ins_any a0 c0 g.ins _ hi (r0.below hb0) hf.ins.2).mono ?_
  rintro e w1 ⟨⟨r, rfl, hr⟩, b1⟩
  have HR : Hid (r = true ↔ InsP g.ins) := hr
  clear hr
  have B1 : Below w.heap.size w w1 := hb0.trans (b1.mono hb0.size)
  replace d0 := cell_on b1 (by omega) d0
  replace d1 := cell_on b1 (by omega) d1
  replace d2 := cell_on b1 (by omega) d2
  have z1 := b1.size
  clear b1
  cases r with
  | false =>
    have HN : Hid (¬ GatP g) := fun h => by have := HR.out.2 h.ins; simp at this
    go_wp2_with fail
    go_ret
    exact ⟨isB_false HN.out, B1⟩
  | true =>
    have HP : Hid (InsP g.ins) := HR.out.1 rfl
    clear HR
    by_cases hlen : g.wins.length = g.ins.length
    · have HL : Hid (g.wins.length = g.ins.length) := hlen
      have hlen' : ((g.wins.length : Int) == (g.ins.length : Int)) = true := by rw [beq_iff_eq]; omega
      clear hlen
      go_wp2_with fail
      refine (l3Ok_any a1 c1 g.wins _ hf.wins (r1.below B1)).mono ?_
      rintro e w2 ⟨⟨r, rfl, hr⟩, b2⟩
      have HR : Hid (r = true ↔ OkW g.wins) := hr
      clear hr
      have B2 : Below w.heap.size w w2 := B1.trans (b2.mono B1.size)
      replace d2 := cell_on b2 (by omega) d2
      have z2 := b2.size
      clear b2
      cases r with
      | false =>
        have HN : Hid (¬ GatP g) := fun h => by have := HR.out.2 h.wins; simp at this
        go_wp2_with fail
        go_ret
        exact ⟨isB_false HN.out, B2⟩
      | true =>
        have HW : Hid (OkW g.wins) := HR.out.1 rfl
        clear HR
        go_wp2_with fail
        refine (specStampOk_any a2 c2 g.shown _ hf.shown.1 (r2.below B2) hf.shown.2).mono ?_
        rintro e w3 ⟨⟨r, rfl, hr⟩, n, rfl⟩
        have HR : Hid (r = true ↔ GatP g) := hr.trans ⟨fun h => ⟨HP.out, HL.out, HW.out, h⟩, fun h => h.shown⟩
        clear hr
        go_wp2_with fail
        go_ret
        exact ⟨⟨r, rfl, HR.out⟩, below_drewN B2 _⟩
    · have hlen' : ((g.wins.length : Int) == (g.ins.length : Int)) = false := by rw [beq_eq_false_iff_ne]; omega
      have HN : Hid (¬ GatP g) := fun h => hlen h.len
      go_wp2_with fail
      go_ret
      exact ⟨isB_false HN.out, B1⟩

set_option maxHeartbeats 800000 in
theorem implGOk_any (a0 a1 a2 : Option Addr) (c0 c1 c2 : Nat) (g : GatL) (w : World) (hf : FitG g) (hi : g.ins.length ≤ 1048576) (hc : g.ins.length ≤ c0) (hc2 : c0 ≤ maxLen) (r0 : RowS w a0 g.ins) (r1 : RowW w a1 g.wins) (r2 : Row w a2 g.shown) :
    Calls Try.prog 46 #[.agg #[.slice a0 g.ins.length c0, .slice a1 g.wins.length c1, .slice a2 g.shown.length c2]] w fun e w' => IsB (GatP g) e ∧ Below w.heap.size w w' := by
  have hl := hf.wins.1
  unfold maxLen at hl
  have hb0 : Below w.heap.size w (w.alloc (.cells #[.slice a0 g.ins.length c0, .slice a1 g.wins.length c1, .slice a2 g.shown.length c2] 53)) := (Below.refl _ _).alloc (Nat.le_refl _) _
  have hlt := box_lt w (.cells #[.slice a0 g.ins.length c0, .slice a1 g.wins.length c1, .slice a2 g.shown.length c2] 53)
  have d0 : (w.alloc (.cells #[.slice a0 g.ins.length c0, .slice a1 g.wins.length c1, .slice a2 g.shown.length c2] 53)).cell? ⟨w.heap.size, 0, none⟩ = some (.slice a0 g.ins.length c0) := by simp [go_sem]
  have d1 : (w.alloc (.cells #[.slice a0 g.ins.length c0, .slice a1 g.wins.length c1, .slice a2 g.shown.length c2] 53)).cell? ⟨w.heap.size, 1, none⟩ = some (.slice a1 g.wins.length c1) := by simp [go_sem]
  have d2 : (w.alloc (.cells #[.slice a0 g.ins.length c0, .slice a1 g.wins.length c1, .slice a2 g.shown.length c2] 53)).cell? ⟨w.heap.size, 2, none⟩ = some (.slice a2 g.shown.length c2) := by simp [go_sem]
  go_enter Try.func46, Try.ntmps46
  go_wp2_with fail
  generalize w.alloc (.cells #[.slice a0 g.ins.length c0, .slice a1 g.wins.length c1, .slice a2 g.shown.length c2] 53) = W0 at *
  refine (insOk_any a0 c0 g.ins _ hi hc hc2 (r0.below hb0) hf.ins.2).mono ?_
  rintro e w1 ⟨⟨r, rfl, hr⟩, rfl⟩
  have HR : Hid (r = true ↔ InsP g.ins) := hr
  clear hr
  cases r with
  | false =>
    have HN : Hid (¬ GatP g) := fun h => by have := HR.out.2 h.ins; simp at this
    go_wp2_with fail
    go_ret
    exact ⟨isB_false HN.out, hb0⟩
  | true =>
    have HP : Hid (InsP g.ins) := HR.out.1 rfl
    clear HR
    by_cases hlen : g.wins.length = g.ins.length
    · have HL : Hid (g.wins.length = g.ins.length) := hlen
      have hlen' : ((g.wins.length : Int) != (g.ins.length : Int)) = false := by rw [bne_eq_false_iff_eq]; omega
      clear hlen
      go_wp2_with fail
      go_loopw [21] (fun i wr => ∃ k : Nat, k ≤ g.wins.length ∧ i = .int .i64 k ∧ Hid (∀ j, (h : j < g.wins.length) → j < k → WinP g.wins[j]) ∧ Below w1.heap.size w1 wr) (fun i _ => g.wins.length - (intOf i).toNat)
      case atStart => exact ⟨0, Nat.zero_le _, rfl, fun _ _ h => absurd h (Nat.not_lt_zero _), Below.refl _ _⟩
      case round =>
        obtain ⟨k, hk, rfl, HI, hbl⟩ := hrel
        have B1 : Below w.heap.size w wr := hb0.trans (hbl.mono hb0.size)
        by_cases hk2 : k < g.wins.length
        · obtain ⟨b1, o1, rfl, g1, s1, t1, e1, _, q1⟩ := r1.below B1 k hk2
          have k0 : (0 : Int) ≤ (k : Int) := by omega
          have k1 : (k : Int) < (g.wins.length : Int) := by omega
          go_wp2_with fail
          refine (implWinOk_any s1 t1 g.wins[k] _ (hf.wins.2 k hk2) q1).mono ?_
          rintro e w2 ⟨⟨r, rfl, hr⟩, b2⟩
          have HR : Hid (r = true ↔ WinP g.wins[k]) := hr
          clear hr
          cases r with
          | false =>
            have HN : Hid (¬ GatP g) := fun h => by have := HR.out.2 (h.wins.2.2 k hk2); simp at this
            go_wp2_with fail
            go_ret
            exact ⟨isB_false HN.out, B1.trans (b2.mono B1.size)⟩
          | true =>
            have HST : Hid (∀ j, (h : j < g.wins.length) → j < k + 1 → WinP g.wins[j]) := win_step HI.out hk2 (HR.out.1 rfl)
            go_wp2_with fail
            exact ⟨⟨k + 1, by omega, by go_num, HST, hbl.trans (b2.mono hbl.size)⟩, by simp [intOf]; omega⟩
        · have HW : Hid (OkW g.wins) := ⟨by have := HP.out.1; have := HL.out; omega, by have := HP.out.2.1; have := HL.out; omega, fun j hj => HI.out j hj (by omega)⟩
          have e2 := cell_on hbl hlt d2
          go_wp2_with fail
          refine (implStampOk_any a2 c2 g.shown _ hf.shown.1 (r2.below B1) hf.shown.2).mono ?_
          rintro e w3 ⟨⟨r, rfl, hr⟩, b3⟩
          have HR : Hid (r = true ↔ GatP g) := hr.trans ⟨fun h => ⟨HP.out, HL.out, HW.out, h⟩, fun h => h.shown⟩
          clear hr
          go_wp2_with fail
          go_ret
          exact ⟨⟨r, rfl, HR.out⟩, B1.trans (b3.mono B1.size)⟩
    · have hlen' : ((g.wins.length : Int) != (g.ins.length : Int)) = true := by rw [bne_iff_ne]; omega
      have HN : Hid (¬ GatP g) := fun h => hlen h.len
      go_wp2_with fail
      go_ret
      exact ⟨isB_false HN.out, hb0⟩

end Go.Proofs.Ytpfhegengmlkmac
/- A slice of texts that the call itself gathers by append. -/
namespace Go.Proofs.Ytpfhegengmlkmac
open Go.RowKit Go.BigFrame

/-- The slice value 'v' holds the texts 'l', in a block of the call's own, from number 'B' on; or it is nil, and there are none. -/
def GathS (w : World) (B : Nat) (v : Value) (l : List ByteArray) : Prop := w.ownsRow B 9 1 v l.length (l.map .string)

theorem gathS_none (w : World) (B : Nat) : GathS w B (.slice none 0 0) [] := World.ownsRow_nil _ _ _ _
theorem GathS.shape {w : World} {B : Nat} {v : Value} {l : List ByteArray} (h : GathS w B v l) : ∃ a cap, v = .slice a l.length cap ∧ RowS w a l := by
  rcases id h with ⟨hl, h1 | ⟨g, cap, cur, hv, hg, hh, r⟩⟩
  · refine ⟨_, _, by rw [h1.2]; exact h1.1, fun k hk => absurd hk (by omega)⟩
  · refine ⟨_, _, hv, fun k hk => ⟨g, 0, rfl, (Array.getElem?_eq_some_iff.1 hh).1, ?_⟩⟩
    subst hv
    have e := World.ownsRow.cellAt h k (by omega)
    rw [Nat.zero_add, e]
    simp [hk]
theorem GathS.keep {w w' : World} {B : Nat} {v : Value} {l : List ByteArray} (h : GathS w B v l) (hb : Below w.heap.size w w') : GathS w' B v l := by
  obtain ⟨hl, h | ⟨g, cap, cur, hv, hg, hh, r⟩⟩ := h
  · exact ⟨hl, .inl h⟩
  · exact ⟨hl, .inr ⟨g, cap, cur, hv, hg, (hb.block g (Array.getElem?_eq_some_iff.1 hh).1).trans hh, r⟩⟩
theorem GathS.but {w w' : World} {R B : Nat} {v : Value} {l : List ByteArray} (h : GathS w B v l) (hb : But R w w') (hR : R < B) : GathS w' B v l := by
  obtain ⟨hl, h | ⟨g, cap, cur, hv, hgB, hh, r⟩⟩ := h
  · exact ⟨hl, .inl h⟩
  · exact ⟨hl, .inr ⟨g, cap, cur, hv, hgB, (hb.block g (Array.getElem?_eq_some_iff.1 hh).1 (by omega)).trans hh, r⟩⟩
theorem GathS.lower {w : World} {B B' : Nat} {v : Value} {l : List ByteArray} (h : GathS w B v l) (hB : B' ≤ B) : GathS w B' v l := by
  obtain ⟨hl, h | ⟨g, cap, cur, hv, hg, r⟩⟩ := h
  · exact ⟨hl, .inl h⟩
  · exact ⟨hl, .inr ⟨g, cap, cur, hv, Nat.le_trans hB hg, r⟩⟩
theorem GathS.snoc {w : World} {B : Nat} {v : Value} {l : List ByteArray} {s : ByteArray} (h : w.ownsRow B 9 1 v (l.length + 1) (l.map .string ++ [.string s])) : GathS w B v (l ++ [s]) := by
  unfold GathS
  rw [List.length_append, List.map_append]
  exact h
theorem ownsRow_block {w : World} {B s n : Nat} {t : TypeId} {v : Value} {xs : List Value} (h : w.ownsRow B t s v n xs) : ∀ k, v.ownBlock = some k → B ≤ k := fun k e => by
  obtain ⟨_, h | ⟨g, cap, cur, rfl, hle, _⟩⟩ := h
  · rw [h.1] at e; cases e
  · simp [Value.ownBlock] at e; omega
theorem one_new (w : World) (x : Value) (t : TypeId) : ∀ j u, [x][j]? = some u → (w.alloc (.cells #[x] t)).cell? ((⟨w.heap.size, 0, none⟩ : Addr).add j) = some u := by
  intro j u hj
  match j, hj with
  | 0, hj => simp at hj; subst hj; simp [Addr.add, go_sem]
theorem Try.infoS : (Try.prog.info? 9).map (fun i => (i.zero, i.size, i.bytes)) = some (some (.string .empty), 1, 16) := by kernel_rfl

end Go.Proofs.Ytpfhegengmlkmac
/- Rows of the call's own, of whatever type: what keeps them. -/
namespace Go.Proofs.Ytpfhegengmlkmac
open Go.RowKit Go.BigFrame

theorem own_keep {w w' : World} {B e size n : Nat} {v : Value} {xs : List Value} (h : w.ownsRow B e size v n xs) (hb : Below w.heap.size w w') : w'.ownsRow B e size v n xs := by
  obtain ⟨hl, h | ⟨g, cap, cur, hv, hgB, hh, r⟩⟩ := h
  · exact ⟨hl, .inl h⟩
  · exact ⟨hl, .inr ⟨g, cap, cur, hv, hgB, (hb.block g (Array.getElem?_eq_some_iff.1 hh).1).trans hh, r⟩⟩
theorem own_lower {w : World} {B B' e size n : Nat} {v : Value} {xs : List Value} (h : w.ownsRow B e size v n xs) (hB : B' ≤ B) : w.ownsRow B' e size v n xs := by
  obtain ⟨hl, h | ⟨g, cap, cur, hv, hgB, r⟩⟩ := h
  · exact ⟨hl, .inl h⟩
  · exact ⟨hl, .inr ⟨g, cap, cur, hv, Nat.le_trans hB hgB, r⟩⟩
/-- Two rows of unlike types lie in unlike blocks. -/
theorem own_types {w : World} {B B' e e' size size' n n' : Nat} {v v' : Value} {xs xs' : List Value} (h : w.ownsRow B e size v n xs) (h' : w.ownsRow B' e' size' v' n' xs') (hne : e ≠ e') : v.ownBlock = none ∨ v.ownBlock ≠ v'.ownBlock := by
  rcases h.2 with ⟨rfl, _⟩ | ⟨g, cap, cur, rfl, _, hh, _⟩
  · exact .inl rfl
  · rcases h'.2 with ⟨rfl, _⟩ | ⟨g', cap', cur', rfl, _, hh', _⟩
    · exact .inr (by simp [Value.ownBlock])
    · refine .inr fun q => ?_
      obtain rfl : g = g' := by simpa [Value.ownBlock] using q
      rw [hh] at hh'
      simp at hh'
      exact hne hh'.2
theorem own_from {w : World} {B e size n : Nat} {v : Value} {xs : List Value} (h : w.ownsRow B e size v n xs) : ∀ k, v.ownBlock = some k → B ≤ k := fun k q => (h.lt k q).1
theorem own_below {W w w' : World} {B e size n : Nat} {v : Value} {xs : List Value} (h : w.ownsRow B e size v n xs) (hb : Below B W w) (hB : B ≤ w.heap.size) (hg : w.grownBy w' v.ownBlock) : Below B W w' := hb.grown hg hB (own_from h)
theorem grown_below {w w' : World} (hb : Below w.heap.size w w') (row : Option Nat) : w.grownBy w' row := ⟨hb.os, hb.tape, hb.output, hb.size, fun k hk _ => hb.block k hk⟩
/-- First one row, then the row that it has become. -/
theorem grown_then {w w1 w2 : World} {r r1 : Option Nat} (h : w.grownBy w1 r) (k : w1.grownBy w2 r1) (hr : r1 = r ∨ ∃ g, r1 = some g ∧ w.heap.size ≤ g) : w.grownBy w2 r :=
  ⟨k.os.trans h.os, k.tape.trans h.tape, k.output.trans h.output, Nat.le_trans h.size k.size, fun i hi hne => (k.block i (Nat.lt_of_lt_of_le hi h.size) (by
    rcases hr with e | ⟨g, e, hle⟩
    · rw [e]; exact hne
    · rw [e]; intro q; cases q; omega)).trans (h.block i hi hne)⟩
theorem grown_cell {w w' : World} {r : Option Nat} (hg : w.grownBy w' r) {b o : Nat} {v : Value} (hne : some b ≠ r) (h : w.cell? ⟨b, o, none⟩ = some v) : w'.cell? ⟨b, o, none⟩ = some v := hg.cell h hne

/-- The slice value 'v' holds the numbers 'l', in a row of the call's own from block 'B' on. -/
def GathN (w : World) (B : Nat) (v : Value) (l : List Int) : Prop := w.ownsRow B 3 1 v l.length (l.map fun x => .int .i64 x)
theorem GathN.shape {w : World} {B : Nat} {v : Value} {l : List Int} (h : GathN w B v l) (h0 : 0 < l.length) : ∃ g cap, v = .slice (some ⟨g, 0, none⟩) l.length cap ∧ B ≤ g ∧ g < w.heap.size ∧ l.length ≤ cap ∧ ∀ j, (hj : j < l.length) → w.cell? ⟨g, j, none⟩ = some (.int .i64 l[j]) := by
  rcases h.2 with ⟨rfl, e⟩ | ⟨g, cap, cur, rfl, hB, hh, hn, r⟩
  · omega
  · refine ⟨g, cap, rfl, hB, (Array.getElem?_eq_some_iff.1 hh).1, hn, fun j hj => ?_⟩
    rw [World.ownsRow.cellAt h j (by omega)]
    simp [hj]

/-- Lists of numbers that the call itself gathers, each in a row of its own: the lists, their blocks and their room. -/
def GathU (w : World) (B : Nat) (v : Value) (L : List (List Int × Nat × Nat)) : Prop := w.ownsRow B 30 1 v L.length (L.map fun p => .slice (some ⟨p.2.1, 0, none⟩) p.1.length p.2.2) ∧ ∀ p ∈ L, GathN w B (.slice (some ⟨p.2.1, 0, none⟩) p.1.length p.2.2) p.1
theorem gathU_none (w : World) (B : Nat) : GathU w B (.slice none 0 0) [] := ⟨World.ownsRow_nil _ _ _ _, by simp⟩
theorem GathU.keep {w w' : World} {B : Nat} {v : Value} {L : List (List Int × Nat × Nat)} (h : GathU w B v L) (hb : Below w.heap.size w w') : GathU w' B v L := ⟨own_keep h.1 hb, fun p hp => own_keep (h.2 p hp) hb⟩
theorem GathU.snoc {w w' : World} {B g c : Nat} {v v' : Value} {L : List (List Int × Nat × Nat)} {l : List Int} (h : GathU w B v L) (hl : GathN w B (.slice (some ⟨g, 0, none⟩) l.length c) l) (hne : 3 ≠ 30)
    (h' : w'.ownsRow B 30 1 v' (L.length + 1) ((L.map fun p => .slice (some ⟨p.2.1, 0, none⟩) p.1.length p.2.2) ++ [.slice (some ⟨g, 0, none⟩) l.length c])) (hg : w.grownBy w' v.ownBlock) : GathU w' B v' (L ++ [(l, g, c)]) := by
  refine ⟨?_, fun p hp => ?_⟩
  · rw [List.length_append, List.map_append]
    exact h'
  · rcases List.mem_append.1 hp with hp | hp
    · exact World.ownsRow.kept (h.2 p hp) hg (own_types (h.2 p hp) h.1 hne)
    · obtain rfl : p = (l, g, c) := by simpa using hp
      exact World.ownsRow.kept hl hg (own_types hl h.1 hne)

end Go.Proofs.Ytpfhegengmlkmac
/- Windows that the call itself gathers, each in blocks of its own. -/
namespace Go.Proofs.Ytpfhegengmlkmac
open Go.RowKit Go.BigFrame

theorem span_grown {w w' : World} {k : Nat} (h : w.grownBy w' (some k)) : Span k (k + 1) w w' := ⟨h.os, h.tape, h.output, h.size, fun i hi hn => h.block i hi (by intro e; cases e; omega)⟩
theorem SafeI.grown {w w' : World} {lo hi : Nat} {a : Option Addr} {l : List ItemL} {r : Option Nat} (h : SafeI w lo hi a l) (hg : w.grownBy w' r) (hd : ∀ k, r = some k → k < lo ∨ hi ≤ k) : SafeI w' lo hi a l := by
  cases r with
  | none => exact h.span (lo' := 0) (hi' := 0) ⟨hg.os, hg.tape, hg.output, hg.size, fun i hi _ => hg.block i hi (by simp)⟩ (by omega)
  | some k => exact h.span (span_grown hg) (by have := hd k rfl; omega)

/-- A window that was gathered: its items, its slice, and the blocks between which it lies. -/
structure WinY where
  l : List ItemL
  v : Value
  lo : Nat
  hi : Nat
/-- It lies so in w. -/
def WinY.In (w : World) (B : Nat) (p : WinY) : Prop := (∃ a c, p.v = .slice a p.l.length c ∧ p.l.length ≤ c ∧ SafeI w p.lo p.hi a p.l) ∧ B ≤ p.lo ∧ p.lo ≤ p.hi ∧ p.hi ≤ w.heap.size
theorem WinY.In.below {w w' : World} {B : Nat} {p : WinY} (h : p.In w B) (hb : Below w.heap.size w w') : p.In w' B := by
  obtain ⟨⟨a, c, h1, h2, h3⟩, h4, h5, h6⟩ := h
  exact ⟨⟨a, c, h1, h2, h3.below hb⟩, h4, h5, Nat.le_trans h6 hb.size⟩
theorem WinY.In.grown {w w' : World} {B : Nat} {p : WinY} {r : Option Nat} (h : p.In w B) (hg : w.grownBy w' r) (hd : ∀ k, r = some k → k < p.lo ∨ p.hi ≤ k) : p.In w' B := by
  obtain ⟨⟨a, c, h1, h2, h3⟩, h4, h5, h6⟩ := h
  exact ⟨⟨a, c, h1, h2, h3.grown hg hd⟩, h4, h5, Nat.le_trans h6 hg.size⟩
theorem GathI.winY {w : World} {B : Nat} {v : Value} {l : List ItemL} (h : GathI w B v l) (hB : B ≤ w.heap.size) : (WinY.mk l v B w.heap.size).In w B := by
  obtain ⟨a, c, h1, h2, h3⟩ := h.safe
  exact ⟨⟨a, c, h1, h2, h3⟩, Nat.le_refl _, hB, Nat.le_refl _⟩

/-- The slice value 'v' holds the windows of L, in a row of the call's own that lies in none of their blocks. -/
structure GathY (w : World) (B : Nat) (v : Value) (L : List WinY) : Prop where
  own : w.ownsRow B 25 1 v L.length (L.map (·.v))
  at_ : ∀ p ∈ L, p.In w B
  far : ∀ p ∈ L, ∀ k, v.ownBlock = some k → k < p.lo ∨ p.hi ≤ k
  dis : L.Pairwise fun p q => p.hi ≤ q.lo
theorem gathY_none (w : World) (B : Nat) : GathY w B (.slice none 0 0) [] := ⟨World.ownsRow_nil _ _ _ _, by simp, by simp, List.Pairwise.nil⟩
theorem GathY.keep {w w' : World} {B : Nat} {v : Value} {L : List WinY} (h : GathY w B v L) (hb : Below w.heap.size w w') : GathY w' B v L := ⟨own_keep h.own hb, fun p hp => (h.at_ p hp).below hb, h.far, h.dis⟩
theorem GathY.grown {w w' : World} {B : Nat} {v : Value} {L : List WinY} {r : Option Nat} (h : GathY w B v L) (hg : w.grownBy w' r) (hv : v.ownBlock = none ∨ v.ownBlock ≠ r) (hd : ∀ p ∈ L, ∀ k, r = some k → k < p.lo ∨ p.hi ≤ k) : GathY w' B v L :=
  ⟨World.ownsRow.kept h.own hg hv, fun p hp => (h.at_ p hp).grown hg (hd p hp), h.far, h.dis⟩
theorem own_farY {w : World} {B e size n q : Nat} {v : Value} {xs : List Value} (h : w.ownsRow B e size v n xs) (hq : q < B) (i : Nat) (z : Value) : (w.setCell ⟨q, i, none⟩ z).ownsRow B e size v n xs := by
  obtain ⟨hl, h | ⟨g, cap, cur, hv, hgB, hh, r⟩⟩ := h
  · exact ⟨hl, .inl h⟩
  · exact ⟨hl, .inr ⟨g, cap, cur, hv, hgB, (Below.heap_setCell _ _ _ _ (by simp only; omega)).trans hh, r⟩⟩
theorem GathY.set {w : World} {B q : Nat} {v : Value} {L : List WinY} (h : GathY w B v L) (hq : q < B) (i : Nat) (z : Value) : GathY (w.setCell ⟨q, i, none⟩ z) B v L := by
  refine ⟨own_farY h.own hq i z, fun p hp => ?_, h.far, h.dis⟩
  obtain ⟨⟨a, c, h1, h2, h3⟩, h4, h5, h6⟩ := h.at_ p hp
  exact ⟨⟨a, c, h1, h2, h3.span ((Span.refl q (q + 1) w).setCell (Nat.le_refl _) (Nat.lt_succ_self _) i z) (by omega)⟩, h4, h5, by simpa using h6⟩
/-- One window more. -/
theorem GathY.snoc {w1 w2 : World} {B : Nat} {v v' : Value} {L : List WinY} {p : WinY} (h : GathY w1 B v L) (hw : ∀ q ∈ L, q.hi ≤ p.lo) (hp : p.In w1 B) (hpv : ∀ k, v.ownBlock = some k → k < p.lo ∨ p.hi ≤ k)
    (ho : w2.ownsRow B 25 1 v' (L.length + 1) ((L.map (·.v)) ++ [p.v])) (hg : w1.grownBy w2 v.ownBlock) (hloc : v'.ownBlock = v.ownBlock ∨ v'.ownBlock = some w1.heap.size) : GathY w2 B v' (L ++ [p]) := by
  have hz : ∀ q ∈ L, q.hi ≤ w1.heap.size := fun q hq => (h.at_ q hq).2.2.2
  have hzp := hp.2.2.2
  refine ⟨by rw [List.length_append, List.map_append]; exact ho, fun q hq => ?_, fun q hq k hk => ?_, ?_⟩
  · rcases List.mem_append.1 hq with hq | hq
    · exact (h.at_ q hq).grown hg (h.far q hq)
    · obtain rfl : q = p := by simpa using hq
      exact hp.grown hg hpv
  · rcases List.mem_append.1 hq with hq | hq
    · rcases hloc with e | e
      · exact h.far q hq k (by rw [← e]; exact hk)
      · rw [e] at hk; cases hk; exact .inr (hz q hq)
    · obtain rfl : q = p := by simpa using hq
      rcases hloc with e | e
      · exact hpv k (by rw [← e]; exact hk)
      · rw [e] at hk; cases hk; exact .inr hzp
  · rw [List.pairwise_append]
    exact ⟨h.dis, List.pairwise_singleton _ _, fun q hq r hr => by obtain rfl : r = p := by simpa using hr
                                                                   exact hw q hq⟩
theorem GathY.row {w : World} {B : Nat} {v : Value} {L : List WinY} (h : GathY w B v L) : ∃ a cap, v = .slice a L.length cap ∧ L.length ≤ cap ∧ RowW w a (L.map (·.l)) := by
  rcases h.own.2 with ⟨rfl, h0⟩ | ⟨g, cap, cur, rfl, hB, hh, hn, _⟩
  · exact ⟨none, 0, by rw [h0], by omega, fun k hk => by rw [List.length_map] at hk; omega⟩
  · have hlt : g < w.heap.size := (Array.getElem?_eq_some_iff.1 hh).1
    refine ⟨_, cap, rfl, hn, fun k hk => ⟨g, 0, rfl, hlt, ?_⟩⟩
    rw [List.length_map] at hk
    obtain ⟨⟨a, c, e, hc, hs⟩, _⟩ := h.at_ L[k] (List.getElem_mem hk)
    refine ⟨a, c, ?_, by simpa using hc, by simpa using hs.row⟩
    rw [Nat.zero_add, World.ownsRow.cellAt h.own _ (by omega)]
    simp [hk, e]

end Go.Proofs.Ytpfhegengmlkmac
