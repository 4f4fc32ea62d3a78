/- Texts of this claim, one behind the other. -/
import Derived.Maps.AppendAt
import Derived.Deep.AppendLies
import Derived.Laws.OwnMore
import Derived.Test.YtpfhegengmlkmaaGreatZJ1
import Derived.Test.YtpfhegengmlkmaaGreatZJ5
import Derived.Test.YtpfhegengmlkmaaGreatZJ6
namespace Go.Proofs.YtpfhegengmlkmaaGreat
open Go.RowKit Go.BigFrame

theorem mcells_cell1 : ∀ (l : List (ByteArray × Int)), ∀ u ∈ mcells l, u.oneCell' = true
  | [], u, h => by simp [mcells] at h
  | m :: r, u, h => by
    simp only [mcells, List.mem_cons] at h
    rcases h with rfl | rfl | h
    · rfl
    · rfl
    · exact mcells_cell1 r u h
theorem row_news {w : World} {b o : Nat} {l : List (ByteArray × Int)} (h : Row w (some ⟨b, o, none⟩) l) : ∀ j u, (mcells l)[j]? = some u → w.cell? ((⟨b, o, none⟩ : Addr).add j) = some u := by
  intro j u hj
  have hjl : j < (mcells l).length := (List.getElem?_eq_some_iff.1 hj).1
  rw [mcells_length] at hjl
  have e : (⟨b, o, none⟩ : Addr).add j = ⟨b, o + j, none⟩ := by unfold Addr.add; by_cases h : j = 0 <;> simp [h]
  rw [e]
  have hk : j / 2 < l.length := by omega
  obtain ⟨b', o', ha, _, c0, c1⟩ := h (j / 2) hk
  obtain ⟨rfl, rfl⟩ : b = b' ∧ o = o' := by simpa using ha
  have hm := mcells_at l (j / 2) hk
  rcases Nat.mod_two_eq_zero_or_one j with h2 | h2
  · have ej : j / 2 * 2 = j := by omega
    rw [ej] at hm c0
    rw [hj] at hm
    rw [c0]
    exact hm.1.symm
  · have ej : j / 2 * 2 + 1 = j := by omega
    have ej' : o + j / 2 * 2 + 1 = o + j := by omega
    rw [ej] at hm
    rw [ej'] at c1
    rw [hj] at hm
    rw [c1]
    exact hm.2.symm

/-- append of all the marks of a slice onto a literal of none. -/
theorem wpList_append_copy {ops : Array Oper} {rest : List Oper} {o : Oper} {a : Act} {w : World} {Q : Exit → Act → World → Prop} (hgd : o.guard = none) (s x : Operand)
    (ho : o.op = .call { callee := .builtin .append, args := #[s, x], argTypes := #[35, 35] }) (base e0 b off cap : Nat) (l : List (ByteArray × Int)) (hs : a.eval s = .slice (some ⟨e0, 0, none⟩) 0 0) (he : w.heap[e0]? = some (.cells #[] 72 (0, 0))) (hb : base ≤ e0)
    (hx : a.eval x = .slice (some ⟨b, off, none⟩) l.length cap) (hr : Row w (some ⟨b, off, none⟩) l) (hl0 : 0 < l.length) (hl : l.length ≤ 1048576)
    (h : ∀ g' cap' w', Gath w' base (.slice (some ⟨g', 0, none⟩) l.length cap') l → w.grownBy w' (some e0) → wpList Tryz.prog ops Q rest (a.put o.dst (.slice (some ⟨g', 0, none⟩) l.length cap')) w') : wpList Tryz.prog ops Q (o :: rest) a w := by
  obtain ⟨i0, hi, hz0, hz1, hz2⟩ := info_parts Tryz.infoM
  have hlt : e0 < w.heap.size := (Array.getElem?_eq_some_iff.1 he).1
  have hown : w.ownsRow base 72 2 (.slice (some ⟨e0, 0, none⟩) 0 0) 0 [] := ⟨rfl, .inr ⟨e0, 0, #[], rfl, hb, he, Nat.le_refl _, Nat.zero_le _, rfl, rfl⟩⟩
  refine wpList_append_lies w hgd s x 35 ho base 72 i0 (.agg #[.string .empty, .int .i64 0]) 2 24 Tryz.underlying35 hi hz0 hz1 hz2 rfl (by decide) _ _ _ hs hown ⟨b, off, none⟩ l.length cap (mcells l) hx (mcells_length l) (row_news hr) (mcells_cell1 l) hl0 (by unfold maxLen; omega) (by omega) (Nat.le_trans hb (Nat.le_of_lt hlt)) _ rfl ?_
  intro g' cap' w' h1 h2 _ _
  simp only [Nat.zero_add, List.nil_append] at h1 ⊢
  exact h g' cap' w' h1 h2

theorem gath_own {w : World} {B g cap : Nat} {l : List (ByteArray × Int)} (h : Gath w B (.slice (some ⟨g, 0, none⟩) l.length cap) l) : B ≤ g ∧ l.length ≤ cap ∧ Own w g l := by
  rcases h.form with ⟨hv, _⟩ | ⟨g', cap', hv, hB, ho⟩
  · simp at hv
  · obtain ⟨⟨rfl⟩, rfl⟩ : g = g' ∧ cap = cap' := by simpa using hv
    refine ⟨hB, ?_, ho⟩
    rcases h.2 with ⟨hv, _⟩ | ⟨g2, cap2, cur, hv, _, _, hn, _⟩
    · simp at hv
    · have : cap = cap2 := by simp at hv; exact hv.2
      omega

theorem Own.grown {w w' : World} {b : Nat} {row : Option Nat} {l : List (ByteArray × Int)} (h : Own w b l) (hg : w.grownBy w' row) (hne : some b ≠ row) : Own w' b l := by
  have hlt := h.lt
  obtain ⟨m, f, h, hf⟩ := h
  exact ⟨m, f, h.of_block (hg.block b hlt hne), hf⟩

/-- The cells of items whose marks lie in blocks of their own, two an item. -/
def icells : List (ItemL × Nat × Nat) → List Value
  | [] => []
  | p :: r => .int .i64 p.1.1 :: .slice (some ⟨p.2.1, 0, none⟩) p.1.2.length p.2.2 :: icells r
theorem icells_append : ∀ L r, icells (L ++ r) = icells L ++ icells r
  | [], _ => rfl
  | p :: L, r => by simp [icells, icells_append L r]
theorem icells_at : ∀ (L : List (ItemL × Nat × Nat)) (k : Nat) (h : k < L.length), (icells L)[k * 2]? = some (.int .i64 L[k].1.1) ∧ (icells L)[k * 2 + 1]? = some (.slice (some ⟨L[k].2.1, 0, none⟩) L[k].1.2.length L[k].2.2)
  | p :: r, 0, _ => by simp [icells]
  | p :: r, k + 1, h => by
    have := icells_at r k (by simpa using h)
    have e0 : (k + 1) * 2 = k * 2 + 1 + 1 := by omega
    rw [e0]
    simp only [icells, List.getElem?_cons_succ, List.getElem_cons_succ]
    exact this

/-- The slice value 'v' holds the items 'l', in a block of the call's own from number 'B' on, their marks each in a block of its own from 'B' on; or it is nil, and there are none. -/
def GathI (w : World) (B : Nat) (v : Value) (l : List ItemL) : Prop :=
  ∃ L : List (ItemL × Nat × Nat), L.map (·.1) = l ∧ w.ownsRow B 40 2 v L.length (icells L) ∧ (∀ p ∈ L, p.1.2.length ≤ p.2.2 ∧ Own w p.2.1 p.1.2 ∧ B ≤ p.2.1) ∧ L.Pairwise fun p q => p.2.1 ≠ q.2.1

theorem gathI_none (w : World) (B : Nat) : GathI w B (.slice none 0 0) [] := ⟨[], rfl, World.ownsRow_nil _ _ _ _, by simp, List.Pairwise.nil⟩

/-- A row of items is no row of marks. -/
theorem items_no_marks {w : World} {B n b : Nat} {v : Value} {xs : List Value} {l : List (ByteArray × Int)} (h : w.ownsRow B 40 2 v n xs) (ho : Own w b l) : some b ≠ v.ownBlock := by
  intro e
  obtain ⟨m, f, ⟨cs, h1, _⟩, _⟩ := ho
  rcases h.2 with ⟨rfl, _⟩ | ⟨g, cap, cur, rfl, _, hh, _⟩
  · simp [Value.ownBlock] at e
  · obtain rfl : b = g := by simpa [Value.ownBlock] using e
    rw [h1] at hh
    simp at hh

theorem GathI.len {w : World} {B : Nat} {v : Value} {l : List ItemL} (h : GathI w B v l) : ∃ a cap, v = .slice a l.length cap ∧ l.length ≤ cap := by
  obtain ⟨L, rfl, ho, _⟩ := h
  rcases ho.2 with ⟨rfl, h0⟩ | ⟨g, cap, cur, rfl, _, _, hn, _⟩
  · exact ⟨_, 0, by rw [List.length_map, h0], by rw [List.length_map, h0]; exact Nat.le_refl _⟩
  · exact ⟨_, cap, by rw [List.length_map], by rw [List.length_map]; exact hn⟩

theorem GathI.keep {w w' : World} {B : Nat} {v : Value} {l : List ItemL} (h : GathI w B v l) (hb : Below w.heap.size w w') : GathI w' B v l := by
  obtain ⟨L, e, ⟨hl, ho⟩, hm, hd⟩ := h
  refine ⟨L, e, ⟨hl, ?_⟩, fun p hp => ⟨(hm p hp).1, (hm p hp).2.1.below hb, (hm p hp).2.2⟩, hd⟩
  rcases ho with h | ⟨g, cap, cur, hv, hg, hh, r⟩
  · exact .inl h
  · refine .inr ⟨g, cap, cur, hv, hg, ?_, r⟩
    rw [hb.block g (Array.getElem?_eq_some_iff.1 hh).1]
    exact hh

theorem GathI.lower {w : World} {B B' : Nat} {v : Value} {l : List ItemL} (h : GathI w B v l) (hB : B' ≤ B) : GathI w B' v l := by
  obtain ⟨L, e, ⟨hl, ho⟩, hm, hd⟩ := h
  refine ⟨L, e, ⟨hl, ?_⟩, fun p hp => ⟨(hm p hp).1, (hm p hp).2.1, Nat.le_trans hB (hm p hp).2.2⟩, hd⟩
  rcases ho with h | ⟨g, cap, cur, hv, hg, r⟩
  · exact .inl h
  · exact .inr ⟨g, cap, cur, hv, Nat.le_trans hB hg, r⟩

/-- An item was appended: its marks lie in block 'gm', which is none of the others. -/
theorem GathI.snoc {w w' : World} {B gm c : Nat} {v v' : Value} {L : List (ItemL × Nat × Nat)} {x : Int} {m : List (ByteArray × Int)}
    (ho : w.ownsRow B 40 2 v L.length (icells L)) (hm : ∀ p ∈ L, p.1.2.length ≤ p.2.2 ∧ Own w p.2.1 p.1.2 ∧ B ≤ p.2.1) (hd : L.Pairwise fun p q => p.2.1 ≠ q.2.1)
    (hg : Own w gm m) (hB : B ≤ gm) (hc : m.length ≤ c) (hn : ∀ p ∈ L, p.2.1 ≠ gm)
    (h' : w'.ownsRow B 40 2 v' (L.length + 1) (icells L ++ [.int .i64 x, .slice (some ⟨gm, 0, none⟩) m.length c])) (hgr : w.grownBy w' v.ownBlock) : GathI w' B v' (L.map (·.1) ++ [(x, m)]) := by
  refine ⟨L ++ [((x, m), gm, c)], by simp, ?_, fun p hp => ?_, ?_⟩
  · rw [icells_append, List.length_append]
    exact h'
  · rcases List.mem_append.1 hp with hp | hp
    · obtain ⟨h1, h2, h3⟩ := hm p hp
      exact ⟨h1, h2.grown hgr (items_no_marks ho h2), h3⟩
    · obtain rfl : p = ((x, m), gm, c) := by simpa using hp
      exact ⟨hc, hg.grown hgr (items_no_marks ho hg), hB⟩
  · rw [List.pairwise_append]
    refine ⟨hd, List.pairwise_singleton _ _, fun p hp q hq => ?_⟩
    obtain rfl : q = ((x, m), gm, c) := by simpa using hq
    exact hn p hp

theorem GathI.grown {W w w' : World} {B : Nat} {v : Value} {n : Nat} {xs : List Value} (h : w.ownsRow B 40 2 v n xs) (hb : Below B W w) (hB : B ≤ w.heap.size) (hg : w.grownBy w' v.ownBlock) : Below B W w' :=
  hb.grown hg hB (fun k e => by
    rcases h.2 with ⟨rfl, _⟩ | ⟨g, cap, cur, rfl, hle, _⟩
    · cases e
    · simp [Value.ownBlock] at e; omega)

/-- The items 'l' lie at 'a', in blocks of the call's own from number 'lo' on and ahead of 'hi'; or there are none. -/
def SafeI (w : World) (lo hi : Nat) (a : Option Addr) (l : List ItemL) : Prop :=
  l = [] ∨ ∃ g, a = some ⟨g, 0, none⟩ ∧ lo ≤ g ∧ g < hi ∧ PartI w lo hi g l l.length

theorem SafeI.row {w : World} {lo hi : Nat} {a : Option Addr} {l : List ItemL} (h : SafeI w lo hi a l) : RowI w a l := by
  rcases h with rfl | ⟨g, rfl, _, _, hp⟩
  · exact fun k hk => absurd hk (Nat.not_lt_zero k)
  · exact hp.row
theorem SafeI.below {w w' : World} {lo hi : Nat} {a : Option Addr} {l : List ItemL} (h : SafeI w lo hi a l) (hb : Below w.heap.size w w') : SafeI w' lo hi a l := by
  rcases h with rfl | ⟨g, rfl, h1, h2, hp⟩
  · exact .inl rfl
  · exact .inr ⟨g, rfl, h1, h2, hp.below hb⟩
theorem PartI.span {w w' : World} {lo hi lo' hi' g k : Nat} {l : List ItemL} (h : PartI w lo hi g l k) (h1 : lo ≤ g) (h2 : g < hi) (hs : Span lo' hi' w w') (hd : hi ≤ lo' ∨ hi' ≤ lo) : PartI w' lo hi g l k := by
  have hlt := h.lt
  obtain ⟨G, C, m, f, h, hm, hf, hp⟩ := h
  refine ⟨G, C, m, f, h.of_block (hs.block g hlt (by omega)), hm, fun j hj hk => ?_, hp⟩
  obtain ⟨e1, e2, e3, e4, e5, e6, e7⟩ := hf j hj hk
  have hl4 := e4.lt
  obtain ⟨m', f', h', hf'⟩ := e4
  exact ⟨e1, e2, e3, ⟨m', f', h'.of_block (hs.block (G j) hl4 (by omega)), hf'⟩, e5, e6, e7⟩
theorem SafeI.span {w w' : World} {lo hi lo' hi' : Nat} {a : Option Addr} {l : List ItemL} (h : SafeI w lo hi a l) (hs : Span lo' hi' w w') (hd : hi ≤ lo' ∨ hi' ≤ lo) : SafeI w' lo hi a l := by
  rcases h with rfl | ⟨g, rfl, h1, h2, hp⟩
  · exact .inl rfl
  · exact .inr ⟨g, rfl, h1, h2, hp.span h1 h2 hs hd⟩

theorem GathI.safe {w : World} {B : Nat} {v : Value} {l : List ItemL} (h : GathI w B v l) : ∃ a cap, v = .slice a l.length cap ∧ l.length ≤ cap ∧ SafeI w B w.heap.size a l := by
  obtain ⟨L, rfl, ho, hm, hd⟩ := h
  have hno : ∀ p ∈ L, some p.2.1 ≠ v.ownBlock := fun p hp => items_no_marks ho (hm p hp).2.1
  rcases ho.2 with ⟨rfl, h0⟩ | ⟨g, cap, cur, rfl, hBg, hh, hn, hcm, hcs, htk⟩
  · obtain rfl : L = [] := List.length_eq_zero_iff.1 h0
    exact ⟨_, _, rfl, Nat.le_refl _, .inl rfl⟩
  · have hgl : g < w.heap.size := (Array.getElem?_eq_some_iff.1 hh).1
    refine ⟨_, cap, by rw [List.length_map], by rw [List.length_map]; exact hn, .inr ⟨g, rfl, hBg, hgl, fun j => ((L[j]?).map (·.2.1)).getD 0, fun j => ((L[j]?).map (·.2.2)).getD 0, cap * 2, fun i => (cur[i]?).getD undef, ⟨cur, hh, hcs, fun i hi => ?_⟩, by rw [List.length_map]; omega, fun j hj _ => ?_, fun i j hi hj hne => ?_⟩⟩
    · have hi' : i < cur.size := by omega
      simp [Array.getElem?_eq_getElem hi']
    · rw [List.length_map] at hj
      have hL : L[j]? = some L[j] := List.getElem?_eq_getElem hj
      have hp := hm _ (List.getElem_mem hj)
      have h2 := icells_at L j hj
      rw [← htk] at h2
      rw [List.getElem?_take_of_lt (by omega), List.getElem?_take_of_lt (by omega)] at h2
      simp only [Array.getElem?_toList] at h2
      simp only [h2.1, h2.2, hL, List.getElem_map, Option.map_some, Option.getD_some]
      refine ⟨trivial, trivial, hp.1, hp.2.1, hp.2.2, hp.2.1.lt, fun e => ?_⟩
      exact hno _ (List.getElem_mem hj) (by rw [e]; rfl)
    · rw [List.length_map] at hi hj
      have hLi : L[i]? = some L[i] := List.getElem?_eq_getElem hi
      have hLj : L[j]? = some L[j] := List.getElem?_eq_getElem hj
      simp only [hLi, hLj, Option.map_some, Option.getD_some]
      rw [List.pairwise_iff_getElem] at hd
      rcases Nat.lt_or_gt_of_ne hne with h | h
      · exact hd i j hi hj h
      · exact Ne.symm (hd j i hj hi h)

/-- Items of no kind but these. -/
def Small1 (l : List ItemL) : Prop := l.length ≤ 1048576 ∧ ∀ j, (h : j < l.length) → l[j].2.length ≤ 1048576


/-- append of one item onto items that the call gathers. The marks of the item lie in a block that is newer than all that was gathered. -/
theorem wp_append_item {o : Oper} {a : Act} {w : World} {K : Act → World → Prop} {Q : Exit → Act → World → Prop} (s x : Operand)
    (ho : o.op = .call { callee := .builtin .append, args := #[s, x], argTypes := #[41, 41] }) (w0 : World) (base : Nat) (v : Value) (l : List ItemL) (hs : a.eval s = v) (hg : GathI w0 base v l) (hb : Below w0.heap.size w0 w) (hbase : base ≤ w0.heap.size)
    (ad : Nat) (xv : Int) (m : List (ByteArray × Int)) (gm c : Nat) (hx : a.eval x = .slice (some ⟨ad, 0, none⟩) 1 1) (c0 : w.cell? ⟨ad, 0, none⟩ = some (.int .i64 xv)) (c1 : w.cell? ⟨ad, 1, none⟩ = some (.slice (some ⟨gm, 0, none⟩) m.length c))
    (hm : Own w gm m) (hgm : w0.heap.size ≤ gm) (hc : m.length ≤ c) (hl : l.length ≤ 1048576)
    (h : ∀ v' w', GathI w' base v' (l ++ [(xv, m)]) → Below base w w' → K (a.put o.dst v') w') : o.wp Tryz.prog a w K Q := by
  obtain ⟨i0, hi, hz0, hz1, hz2⟩ := info_parts Tryz.infoI
  obtain ⟨L, rfl, hown, hmk, hd⟩ := hg
  have hown' : w.ownsRow base 40 2 v L.length (icells L) := by
    obtain ⟨hl, ho⟩ := hown
    refine ⟨hl, ?_⟩
    rcases ho with h | ⟨g, cap, cur, hv, hg, hh, r⟩
    · exact .inl h
    · refine .inr ⟨g, cap, cur, hv, hg, ?_, r⟩
      rw [hb.block g (Array.getElem?_eq_some_iff.1 hh).1]
      exact hh
  have hmk' : ∀ p ∈ L, p.1.2.length ≤ p.2.2 ∧ Own w p.2.1 p.1.2 ∧ base ≤ p.2.1 := fun p hp => ⟨(hmk p hp).1, (hmk p hp).2.1.below hb, (hmk p hp).2.2⟩
  have hnew : ∀ p ∈ L, p.2.1 ≠ gm := fun p hp => by have := (hmk p hp).2.1.lt; omega
  have hz := hb.size
  rw [List.length_map] at hl
  obtain ⟨g, cap, w', hr, h2, h3, _, _⟩ := run_append_lies (P := Tryz.prog) w 41 o.type base 40 i0 (.agg #[.int .i64 0, .slice none 0 0]) 2 32 Tryz.underlying41 hi hz0 hz1 hz2 rfl (by decide) _ _ _ hown' ⟨ad, 0, none⟩ 1 1 [.int .i64 xv, .slice (some ⟨gm, 0, none⟩) m.length c] rfl (by
      intro j u hj
      match j, hj with
      | 0, hj => simp at hj; subst hj; exact c0
      | 1, hj => simp at hj; subst hj; exact c1) (by simp [Value.oneCell']) (by decide) (by unfold maxLen; omega) (by omega) (by omega) _ rfl
  unfold Oper.wp execOp
  simp only [ho, resolve, invoke, builtin, Sem.run_bind, Sem.run_pure, Result.andThen_ok, List.map_toArray, List.map_cons, List.map_nil, hs, hx, hr]
  exact h _ w' (GathI.snoc hown' hmk' hd hm (Nat.le_trans hbase hgm) hc hnew h2 h3) (GathI.grown hown' (Below.refl _ _) (Nat.le_trans hbase hz) h3)

end Go.Proofs.YtpfhegengmlkmaaGreat

namespace Go.Proofs.YtpfhegengmlkmaaGreat
open Go.RowKit Go.BigFrame

theorem own_keep {w w' : World} {B e size n : Nat} {v : Value} {xs : List Value} (h : w.ownsRow B e size v n xs) (hb : Below w.heap.size w w') : w'.ownsRow B e size v n xs := by
  obtain ⟨hl, h | ⟨g, cap, cur, hv, hgB, hh, r⟩⟩ := h
  · exact ⟨hl, .inl h⟩
  · exact ⟨hl, .inr ⟨g, cap, cur, hv, hgB, (hb.block g (Array.getElem?_eq_some_iff.1 hh).1).trans hh, r⟩⟩
theorem own_lower {w : World} {B B' e size n : Nat} {v : Value} {xs : List Value} (h : w.ownsRow B e size v n xs) (hB : B' ≤ B) : w.ownsRow B' e size v n xs := by
  obtain ⟨hl, h | ⟨g, cap, cur, hv, hgB, r⟩⟩ := h
  · exact ⟨hl, .inl h⟩
  · exact ⟨hl, .inr ⟨g, cap, cur, hv, Nat.le_trans hB hgB, r⟩⟩
/-- Two rows of unlike types lie in unlike blocks. -/
theorem own_types {w : World} {B B' e e' size size' n n' : Nat} {v v' : Value} {xs xs' : List Value} (h : w.ownsRow B e size v n xs) (h' : w.ownsRow B' e' size' v' n' xs') (hne : e ≠ e') : v.ownBlock = none ∨ v.ownBlock ≠ v'.ownBlock := by
  rcases h.2 with ⟨rfl, _⟩ | ⟨g, cap, cur, rfl, _, hh, _⟩
  · exact .inl rfl
  · rcases h'.2 with ⟨rfl, _⟩ | ⟨g', cap', cur', rfl, _, hh', _⟩
    · exact .inr (by simp [Value.ownBlock])
    · refine .inr fun q => ?_
      obtain rfl : g = g' := by simpa [Value.ownBlock] using q
      rw [hh] at hh'
      simp at hh'
      exact hne hh'.2
theorem own_from {w : World} {B e size n : Nat} {v : Value} {xs : List Value} (h : w.ownsRow B e size v n xs) : ∀ k, v.ownBlock = some k → B ≤ k := fun k q => (h.lt k q).1
theorem grown_below {w w' : World} (hb : Below w.heap.size w w') (row : Option Nat) : w.grownBy w' row := ⟨hb.os, hb.tape, hb.output, hb.size, fun k hk _ => hb.block k hk⟩
/-- First one row, then the row that it has become. -/
theorem grown_then {w w1 w2 : World} {r r1 : Option Nat} (h : w.grownBy w1 r) (k : w1.grownBy w2 r1) (hr : r1 = r ∨ ∃ g, r1 = some g ∧ w.heap.size ≤ g) : w.grownBy w2 r :=
  ⟨k.os.trans h.os, k.tape.trans h.tape, k.output.trans h.output, Nat.le_trans h.size k.size, fun i hi hne => (k.block i (Nat.lt_of_lt_of_le hi h.size) (by
    rcases hr with e | ⟨g, e, hle⟩
    · rw [e]; exact hne
    · rw [e]; intro q; cases q; omega)).trans (h.block i hi hne)⟩
theorem grown_cell {w w' : World} {r : Option Nat} (hg : w.grownBy w' r) {b o : Nat} {v : Value} (hne : some b ≠ r) (h : w.cell? ⟨b, o, none⟩ = some v) : w'.cell? ⟨b, o, none⟩ = some v := hg.cell h hne

/-- The slice value 'v' holds the numbers 'l', in a row of the call's own from block 'B' on. -/
def GathN (w : World) (B : Nat) (v : Value) (l : List Int) : Prop := w.ownsRow B 3 1 v l.length (l.map fun x => .int .i64 x)
theorem GathN.shape {w : World} {B : Nat} {v : Value} {l : List Int} (h : GathN w B v l) (h0 : 0 < l.length) : ∃ g cap, v = .slice (some ⟨g, 0, none⟩) l.length cap ∧ B ≤ g ∧ g < w.heap.size ∧ l.length ≤ cap ∧ ∀ j, (hj : j < l.length) → w.cell? ⟨g, j, none⟩ = some (.int .i64 l[j]) := by
  rcases h.2 with ⟨rfl, e⟩ | ⟨g, cap, cur, rfl, hB, hh, hn, r⟩
  · omega
  · refine ⟨g, cap, rfl, hB, (Array.getElem?_eq_some_iff.1 hh).1, hn, fun j hj => ?_⟩
    rw [World.ownsRow.cellAt h j (by omega)]
    simp [hj]

/-- Lists of numbers that the call itself gathers, each in a row of its own: the lists, their blocks and their room. -/
def GathU (w : World) (B : Nat) (v : Value) (L : List (List Int × Nat × Nat)) : Prop := w.ownsRow B 25 1 v L.length (L.map fun p => .slice (some ⟨p.2.1, 0, none⟩) p.1.length p.2.2) ∧ ∀ p ∈ L, GathN w B (.slice (some ⟨p.2.1, 0, none⟩) p.1.length p.2.2) p.1
theorem gathU_none (w : World) (B : Nat) : GathU w B (.slice none 0 0) [] := ⟨World.ownsRow_nil _ _ _ _, by simp⟩
theorem GathU.keep {w w' : World} {B : Nat} {v : Value} {L : List (List Int × Nat × Nat)} (h : GathU w B v L) (hb : Below w.heap.size w w') : GathU w' B v L := ⟨own_keep h.1 hb, fun p hp => own_keep (h.2 p hp) hb⟩
theorem GathU.snoc {w w' : World} {B g c : Nat} {v v' : Value} {L : List (List Int × Nat × Nat)} {l : List Int} (h : GathU w B v L) (hl : GathN w B (.slice (some ⟨g, 0, none⟩) l.length c) l) (hne : 3 ≠ 25)
    (h' : w'.ownsRow B 25 1 v' (L.length + 1) ((L.map fun p => .slice (some ⟨p.2.1, 0, none⟩) p.1.length p.2.2) ++ [.slice (some ⟨g, 0, none⟩) l.length c])) (hg : w.grownBy w' v.ownBlock) : GathU w' B v' (L ++ [(l, g, c)]) := by
  refine ⟨?_, fun p hp => ?_⟩
  · rw [List.length_append, List.map_append]
    exact h'
  · rcases List.mem_append.1 hp with hp | hp
    · exact World.ownsRow.kept (h.2 p hp) hg (own_types (h.2 p hp) h.1 hne)
    · obtain rfl : p = (l, g, c) := by simpa using hp
      exact World.ownsRow.kept hl hg (own_types hl h.1 hne)

end Go.Proofs.YtpfhegengmlkmaaGreat

namespace Go.Proofs.YtpfhegengmlkmaaGreat
open Go.RowKit Go.BigFrame

theorem lat_below {w wr : World} {o : Obj} (hb : Below w.heap.size w wr) (n : Lat (wr.alloc o)) : Below w.heap.size w n.w :=
  (hb.alloc hb.size o).trans (n.h.mono (Nat.le_trans hb.size (Nat.le_of_lt (box_lt _ _))))
theorem box_old (w : World) (o : Obj) {b i : Nat} (h : b < w.heap.size) : (w.alloc o).cell? ⟨b, i, none⟩ = w.cell? ⟨b, i, none⟩ :=
  ((Below.refl w.heap.size w).alloc (Nat.le_refl _) o).cell h

theorem ok_yes (s : ByteArray) (v : Int) (w : World) (hs : s.size ≤ maxLen) (h : MarkP (s, v)) :
    Calls Tryz.prog 58 #[.agg #[.string s, .int .i64 v]] w fun e w' => e = .returned (.bool true) ∧ Below w.heap.size w w' :=
  (ok_any s v w hs).mono fun e w' ⟨⟨r, he, hr⟩, hb⟩ => ⟨by rw [he, hr.2 h], hb⟩
theorem ok_no (s : ByteArray) (v : Int) (w : World) (hs : s.size ≤ maxLen) (h : ¬ MarkP (s, v)) :
    Calls Tryz.prog 58 #[.agg #[.string s, .int .i64 v]] w fun e w' => e = .returned (.bool false) ∧ Below w.heap.size w w' :=
  (ok_any s v w hs).mono fun e w' ⟨⟨r, he, hr⟩, hb⟩ => ⟨by rw [he]; cases r; rfl; exact absurd (hr.1 rfl) h, hb⟩

set_option maxHeartbeats 800000 in
theorem implStampOk_any (a : Option Addr) (cap : Nat) (l : List (ByteArray × Int)) (w : World) (hl : l.length ≤ maxLen) (hr : Row w a l) (hs : ∀ j, (h : j < l.length) → l[j].1.size ≤ maxLen) :
    Calls Tryz.prog 33 #[.slice a l.length cap] w fun e w' => IsB (StampP l) e ∧ Below w.heap.size w w' := by
  unfold maxLen at hl
  by_cases h12 : 12 < l.length
  · go_enter Tryz.func33, Tryz.ntmps33
    go_wp2_with fail
    go_ret
    exact ⟨isB_false (fun h => by have := h.1; omega), Below.refl _ _⟩
  go_enter Tryz.func33, Tryz.ntmps33
  go_wp2_with fail
  go_loopw [10] (fun i wr => ∃ k : Nat, k ≤ l.length ∧ i = .int .i64 k ∧ StampTo l k ∧ Below w.heap.size w wr) (fun i _ => l.length - (intOf i).toNat)
  case atStart => exact ⟨0, Nat.zero_le _, rfl, stampTo_zero l, Below.refl _ _⟩
  case round =>
    obtain ⟨k, hk, rfl, hall, hb⟩ := hrel
    by_cases hlt : k < l.length
    · obtain ⟨b, o, rfl, hblt, c0, c1⟩ := hr k hlt
      have HS := hs k hlt
      have HST := stampTo_step hall hlt
      have e0 := cell_on hb hblt c0
      have e1 := cell_on hb hblt c1
      have g1 : b < wr.heap.size := Nat.lt_of_lt_of_le hblt hb.size
      have k0 : (0 : Int) ≤ (k : Int) := by omega
      have k1 : (k : Int) < (l.length : Int) := by omega
      by_cases hm : MarkP l[k]
      · by_cases hk0 : k < 1
        · have hd : decide (0 < k) = false := by simp; omega
          go_wp2_with fail
          refine wp_region_lat (by kernel_rfl) (by kernel_rfl) ?_
          have hne := Lat.some (wr.alloc (.cells #[.string l[k].1, .int .i64 l[k].2] 72))
          have q0 : ∀ n : Lat (wr.alloc (.cells #[.string l[k].1, .int .i64 l[k].2] 72)), n.w.cell? ⟨wr.heap.size, 0, none⟩ = some (.string l[k].1) := fun n => n.cell (box_lt _ _) (box0 _ _ _ _)
          have q1 : ∀ n : Lat (wr.alloc (.cells #[.string l[k].1, .int .i64 l[k].2] 72)), n.w.cell? ⟨wr.heap.size, 1, none⟩ = some (.int .i64 l[k].2) := fun n => n.cell (box_lt _ _) (box1 _ _ _ _)
          repeat (go_big_quiet_step ((go_at_call 58; exact Calls.lat_of (ok_yes _ _ _ HS hm))))
          refine wpQuiet_nil ?_
          rintro _ ⟨nq, rfl⟩
          go_wp2_with fail
          exact ⟨⟨k + 1, by omega, by go_num, HST hm (fun h => by omega), lat_below hb nq⟩, by simp [intOf]; omega⟩
        · obtain ⟨b', o', he, _, d0, _⟩ := hr (k - 1) (by omega)
          obtain ⟨rfl, rfl⟩ : b' = b ∧ o' = o := by simp at he; exact ⟨he.1.symm, he.2.symm⟩
          have hd : decide (0 < k) = true := by simp; omega
          have f0 := cell_on hb hblt d0
          go_wp2_with fail
          refine wp_region_lat (by kernel_rfl) (by kernel_rfl) ?_
          have hne := Lat.some (wr.alloc (.cells #[.string l[k].1, .int .i64 l[k].2] 72))
          have q0 : ∀ n : Lat (wr.alloc (.cells #[.string l[k].1, .int .i64 l[k].2] 72)), n.w.cell? ⟨wr.heap.size, 0, none⟩ = some (.string l[k].1) := fun n => n.cell (box_lt _ _) (box0 _ _ _ _)
          have q1 : ∀ n : Lat (wr.alloc (.cells #[.string l[k].1, .int .i64 l[k].2] 72)), n.w.cell? ⟨wr.heap.size, 1, none⟩ = some (.int .i64 l[k].2) := fun n => n.cell (box_lt _ _) (box1 _ _ _ _)
          have q2 : ∀ n : Lat (wr.alloc (.cells #[.string l[k].1, .int .i64 l[k].2] 72)), n.w.cell? ⟨b', o' + (k - 1) * 2, none⟩ = some (.string l[k - 1].1) := fun n => n.cell (Nat.lt_trans g1 (box_lt _ _)) (by rw [box_old _ _ g1]; exact f0)
          repeat (go_big_quiet_step ((go_at_call 58; exact Calls.lat_of (ok_yes _ _ _ HS hm))))
          refine wpQuiet_nil ?_
          rintro _ ⟨nq, rfl⟩
          go_wp2_with fail
          · go_ret
            exact ⟨isB_false (fun h => by have := asc_at h hk0 hlt; unfold Asc at this; simp_all), lat_below hb nq⟩
          · exact ⟨⟨k + 1, by omega, by go_num, HST hm (fun _ => by unfold Asc; simp_all), lat_below hb nq⟩, by simp [intOf]; omega⟩
      · go_wp2_with fail
        refine wp_region_lat (by kernel_rfl) (by kernel_rfl) ?_
        have hne := Lat.some (wr.alloc (.cells #[.string l[k].1, .int .i64 l[k].2] 72))
        have q0 : ∀ n : Lat (wr.alloc (.cells #[.string l[k].1, .int .i64 l[k].2] 72)), n.w.cell? ⟨wr.heap.size, 0, none⟩ = some (.string l[k].1) := fun n => n.cell (box_lt _ _) (box0 _ _ _ _)
        have q1 : ∀ n : Lat (wr.alloc (.cells #[.string l[k].1, .int .i64 l[k].2] 72)), n.w.cell? ⟨wr.heap.size, 1, none⟩ = some (.int .i64 l[k].2) := fun n => n.cell (box_lt _ _) (box1 _ _ _ _)
        repeat (go_big_quiet_step ((go_at_call 58; exact Calls.lat_of (ok_no _ _ _ HS hm))))
        refine wpQuiet_nil ?_
        rintro _ ⟨nq, rfl⟩
        go_wp2_with fail
        go_ret
        exact ⟨isB_false (fun h => hm (h.2.1 k hlt)), lat_below hb nq⟩
    · go_wp2_with fail
      go_ret
      exact ⟨isB_true (stampP_of hall hlt (by omega)), hb⟩

end Go.Proofs.YtpfhegengmlkmaaGreat

namespace Go.Proofs.YtpfhegengmlkmaaGreat
open Go.RowKit Go.BigFrame

set_option maxHeartbeats 400000 in
theorem l1Get_any (a : Option Addr) (cap : Nat) (l : List (ByteArray × Int)) (s : ByteArray) (w : World) (hl : l.length ≤ maxLen) (hr : Row w a l) :
    Calls Tryz.prog 57 #[.slice a l.length cap, .string s] w fun e w' => e = .returned (.int .i64 (getM l s)) ∧ w' = w := by
  unfold maxLen at hl
  go_enter Tryz.func57, Tryz.ntmps57
  go_wp2_with fail
  go_loop [5] (fun i => ∃ k : Nat, k ≤ l.length ∧ i = .int .i64 k ∧ (∀ j, (h : j < l.length) → j < k → l[j].1 ≠ s)) (fun i => l.length - (intOf i).toNat)
  case atStart => exact ⟨0, Nat.zero_le _, rfl, fun j _ h => by omega⟩
  case round =>
    obtain ⟨k, hk, rfl, hall⟩ := hrel
    by_cases hlt : k < l.length
    · obtain ⟨b, o, rfl, hblt, c0, c1⟩ := hr k hlt
      have HST := ne_step hall hlt
      by_cases he : l[k].1 = s
      · have H : Hid (getM l s = l[k].2) := getM_at hlt hall he
        have hb : (l[k].1.toList == s.toList) = true := toList_beq.2 he
        clear HST hall he
        go_wp2_with fail
        go_ret
        exact ⟨by rw [H.out]; rfl, rfl⟩
      · have hb : (l[k].1.toList == s.toList) = false := toList_bne.2 he
        have HN := HST he
        clear HST hall he
        go_wp2_with fail
        exact ⟨⟨k + 1, by omega, by go_num, HN⟩, by simp [intOf]; omega⟩
    · have H : Hid (getM l s = 0) := getM_none fun j hj => hall j hj (by omega)
      go_wp2_with fail
      go_ret
      exact ⟨by rw [H.out]; rfl, rfl⟩

/-- What StampGet answers. -/
def IsG (l : List (ByteArray × Int)) (s : ByteArray) (v : Int) : Prop := (StampP l → v = getM l s) ∧ (¬ StampP l → v = 0)
theorem IsG.one {l : List (ByteArray × Int)} {s : ByteArray} {u v : Int} (h : IsG l s u) (h' : IsG l s v) : u = v := by
  by_cases hp : StampP l
  · rw [h.1 hp, h'.1 hp]
  · rw [h.2 hp, h'.2 hp]

end Go.Proofs.YtpfhegengmlkmaaGreat
