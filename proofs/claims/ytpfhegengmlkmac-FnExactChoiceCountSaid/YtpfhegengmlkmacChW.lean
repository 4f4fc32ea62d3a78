/- Windows that the call itself gathers, ten cells a window; rows of lists of spots. -/
import Derived.Test.YtpfhegengmlkmacChR
import Derived.Test.YtpfhegengmlkmacWinL
import Derived.Test.YtpfhegengmlkmacOwnB
import Derived.Test.YtpfhegengmlkmacMapG
namespace Go.Proofs.Ytpfhegengmlkmac
open Go.RowKit Go.BigFrame

/-- The ten cells of a window's value. -/
def WinC (W0 : World) (c : List Value) (l : List ItemL) : Prop := c.length = 10 ∧ l.length ≤ 4 ∧ c[8]? = some (.int .i64 0) ∧ c[9]? = some (.int .i64 l.length) ∧
  ∀ k, (h : k < l.length) → c[k * 2]? = some (.int .i64 l[k].1) ∧ ∃ v, c[k * 2 + 1]? = some v ∧ IsSl W0 v l[k].2

theorem WinV.cells {W0 : World} {v : Value} {l : List ItemL} (h : WinV W0 v l) : ∃ (x0 x1 x2 x3 : Int) (a0 a1 a2 a3 : Option Addr) (n0 n1 n2 n3 c0 c1 c2 c3 : Nat), v = .agg #[.int .i64 x0, .slice a0 n0 c0, .int .i64 x1, .slice a1 n1 c1, .int .i64 x2, .slice a2 n2 c2, .int .i64 x3, .slice a3 n3 c3, .int .i64 0, .int .i64 l.length] ∧
    WinC W0 [.int .i64 x0, .slice a0 n0 c0, .int .i64 x1, .slice a1 n1 c1, .int .i64 x2, .slice a2 n2 c2, .int .i64 x3, .slice a3 n3 c3, .int .i64 0, .int .i64 l.length] l := by
  obtain ⟨x0, x1, x2, x3, a0, a1, a2, a3, n0, n1, n2, n3, c0, c1, c2, c3, rfl, h4, hk⟩ := h
  refine ⟨x0, x1, x2, x3, a0, a1, a2, a3, n0, n1, n2, n3, c0, c1, c2, c3, rfl, rfl, h4, rfl, rfl, fun k h => ?_⟩
  rcases (by omega : k = 0 ∨ k = 1 ∨ k = 2 ∨ k = 3) with rfl | rfl | rfl | rfl
  · obtain ⟨q1, a, n, c, q2, q3⟩ := hk 0 h
    obtain ⟨rfl, rfl, rfl⟩ : a0 = a ∧ n0 = n ∧ c0 = c := by simpa using q2
    have e1 : x0 = l[0].1 := by simpa using q1
    exact ⟨by rw [← e1]; rfl, _, rfl, q3⟩
  · obtain ⟨q1, a, n, c, q2, q3⟩ := hk 1 h
    obtain ⟨rfl, rfl, rfl⟩ : a1 = a ∧ n1 = n ∧ c1 = c := by simpa using q2
    have e1 : x1 = l[1].1 := by simpa using q1
    exact ⟨by rw [← e1]; rfl, _, rfl, q3⟩
  · obtain ⟨q1, a, n, c, q2, q3⟩ := hk 2 h
    obtain ⟨rfl, rfl, rfl⟩ : a2 = a ∧ n2 = n ∧ c2 = c := by simpa using q2
    have e1 : x2 = l[2].1 := by simpa using q1
    exact ⟨by rw [← e1]; rfl, _, rfl, q3⟩
  · obtain ⟨q1, a, n, c, q2, q3⟩ := hk 3 h
    obtain ⟨rfl, rfl, rfl⟩ : a3 = a ∧ n3 = n ∧ c3 = c := by simpa using q2
    have e1 : x3 = l[3].1 := by simpa using q1
    exact ⟨by rw [← e1]; rfl, _, rfl, q3⟩

/-- The cells of gathered windows. -/
def vcells (L : List (List ItemL × List Value)) : List Value := L.flatMap (·.2)
theorem vcells_at : ∀ (L : List (List ItemL × List Value)), (∀ p ∈ L, p.2.length = 10) → ∀ (k : Nat) (h : k < L.length) (j : Nat), j < 10 → (vcells L)[k * 10 + j]? = L[k].2[j]?
  | p :: r, hL, 0, _, j, hj => by
    have h10 := hL p (by simp)
    simp only [vcells, List.flatMap_cons, Nat.zero_mul, Nat.zero_add, List.getElem_cons_zero]
    rw [List.getElem?_append_left (by omega)]
  | p :: r, hL, k + 1, h, j, hj => by
    have h10 := hL p (by simp)
    have := vcells_at r (fun q hq => hL q (by simp [hq])) k (by simpa using h) j hj
    simp only [vcells, List.flatMap_cons, List.getElem_cons_succ] at this ⊢
    rw [List.getElem?_append_right (by omega), ← this]
    congr 1
    omega
theorem vcells_length : ∀ (L : List (List ItemL × List Value)), (∀ p ∈ L, p.2.length = 10) → (vcells L).length = L.length * 10
  | [], _ => rfl
  | p :: r, hL => by
    have h10 := hL p (by simp)
    have := vcells_length r (fun q hq => hL q (by simp [hq]))
    simp only [vcells, List.flatMap_cons, List.length_append, List.length_cons] at this ⊢
    omega
/-- The slice value 'v' holds the windows 'L', in a row of the call's own; their items' marks lie in W0. -/
def GathW (W0 w : World) (B : Nat) (v : Value) (L : List (List ItemL × List Value)) : Prop := w.ownsRow B 80 10 v L.length (vcells L) ∧ ∀ p ∈ L, WinC W0 p.2 p.1
theorem GathW.snoc {W0 w w' : World} {B : Nat} {v v' : Value} {L : List (List ItemL × List Value)} {l : List ItemL} {c : List Value} (h : GathW W0 w B v L) (hc : WinC W0 c l) (h' : w'.ownsRow B 80 10 v' (L.length + 1) (vcells L ++ c)) : GathW W0 w' B v' (L ++ [(l, c)]) := by
  refine ⟨?_, fun p hp => ?_⟩
  · have e : vcells (L ++ [(l, c)]) = vcells L ++ c := by simp [vcells]
    rw [e, List.length_append]
    exact h'
  · rcases List.mem_append.1 hp with hp | hp
    · exact h.2 p hp
    · obtain rfl : p = (l, c) := by simpa using hp
      exact hc
theorem GathW.keep {W0 w w' : World} {B : Nat} {v : Value} {L : List (List ItemL × List Value)} (h : GathW W0 w B v L) (hb : Below w.heap.size w w') : GathW W0 w' B v L := ⟨own_keep h.1 hb, h.2⟩

/-- The slice at address 'a' holds the windows 'ws', ten cells a window, their items' marks in W0. -/
def RowV (W0 w : World) (a : Option Addr) (ws : List (List ItemL)) : Prop := ∀ k, (h : k < ws.length) → ∃ b o, a = some ⟨b, o, none⟩ ∧ WinO W0 w b (o + k * 10) ws[k]
theorem RowV.below {W0 w w' : World} {a : Option Addr} {ws : List (List ItemL)} (h : RowV W0 w a ws) (hb : Below w.heap.size w w') : RowV W0 w' a ws := fun k hk => by
  obtain ⟨b, o, e, h1⟩ := h k hk
  exact ⟨b, o, e, h1.below hb⟩
theorem GathW.row {W0 w : World} {B : Nat} {v : Value} {L : List (List ItemL × List Value)} (h : GathW W0 w B v L) : ∃ a cap, v = .slice a L.length cap ∧ L.length ≤ cap ∧ RowV W0 w a (L.map (·.1)) := by
  rcases h.1.2 with ⟨rfl, h0⟩ | ⟨g, cap, cur, rfl, hB, hh, hn, _⟩
  · exact ⟨none, 0, by rw [h0], by omega, fun k hk => by rw [List.length_map] at hk; omega⟩
  · have hlt : g < w.heap.size := (Array.getElem?_eq_some_iff.1 hh).1
    refine ⟨_, cap, rfl, hn, fun k hk => ⟨g, 0, rfl, ?_⟩⟩
    rw [List.length_map] at hk
    have hc := h.2 L[k] (List.getElem_mem hk)
    have hat : ∀ j, j < 10 → w.cell? ⟨g, 0 + k * 10 + j, none⟩ = L[k].2[j]? := fun j hj => by
      rw [Nat.zero_add, World.ownsRow.cellAt h.1 _ (by omega), vcells_at L (fun p hp => (h.2 p hp).1) k hk j hj]
    simp only [List.getElem_map]
    refine ⟨hlt, hc.2.1, (hat 8 (by omega)).trans hc.2.2.1, (hat 9 (by omega)).trans hc.2.2.2.1, fun j hj => ?_⟩
    obtain ⟨h1, v, h2, h3⟩ := hc.2.2.2.2 j hj
    have := hc.2.1
    exact ⟨(hat (j * 2) (by omega)).trans h1, v, (hat (j * 2 + 1) (by omega)).trans h2, h3⟩

/-- The slice at address 'a' holds the spots 'l'. -/
def RowP (w : World) (a : Option Addr) (l : List Spot) : Prop := ∀ k, (h : k < l.length) → ∃ b o, a = some ⟨b, o, none⟩ ∧ b < w.heap.size ∧ w.cell? ⟨b, o + k * 2, none⟩ = some (.int .i64 (l[k].1 : Int)) ∧ w.cell? ⟨b, o + k * 2 + 1, none⟩ = some (.int .i64 (l[k].2 : Int))
theorem RowP.below {w w' : World} {a : Option Addr} {l : List Spot} (h : RowP w a l) (hb : Below w.heap.size w w') : RowP w' a l := fun k hk => by
  obtain ⟨b, o, e, h1, h2, h3⟩ := h k hk
  exact ⟨b, o, e, Nat.lt_of_lt_of_le h1 hb.size, cell_on hb h1 h2, cell_on hb h1 h3⟩
theorem GathP.row {w : World} {B : Nat} {v : Value} {l : List Spot} (h : GathP w B v l) : ∃ a cap, v = .slice a l.length cap ∧ l.length ≤ cap ∧ RowP w a l := by
  rcases h.2 with ⟨rfl, h0⟩ | ⟨g, cap, cur, rfl, hB, hh, hn, _⟩
  · exact ⟨none, 0, by rw [h0], by omega, fun k hk => by omega⟩
  · have hlt : g < w.heap.size := (Array.getElem?_eq_some_iff.1 hh).1
    refine ⟨_, cap, rfl, hn, fun k hk => ⟨g, 0, rfl, hlt, ?_, ?_⟩⟩
    · rw [Nat.zero_add, World.ownsRow.cellAt h _ (by omega), (scells_at l k hk).1]
    · rw [Nat.zero_add, World.ownsRow.cellAt h _ (by omega), (scells_at l k hk).2]
/-- The slice at address 'a' holds the lists of spots 'sh'. -/
def RowG (w : World) (a : Option Addr) (sh : List (List Spot)) : Prop := ∀ k, (h : k < sh.length) → ∃ b o, a = some ⟨b, o, none⟩ ∧ b < w.heap.size ∧ ∃ s c, w.cell? ⟨b, o + k, none⟩ = some (.slice s sh[k].length c) ∧ sh[k].length ≤ c ∧ RowP w s sh[k]
theorem RowG.below {w w' : World} {a : Option Addr} {sh : List (List Spot)} (h : RowG w a sh) (hb : Below w.heap.size w w') : RowG w' a sh := fun k hk => by
  obtain ⟨b, o, e, h1, s, c, h2, h3, h4⟩ := h k hk
  exact ⟨b, o, e, Nat.lt_of_lt_of_le h1 hb.size, s, c, cell_on hb h1 h2, h3, h4.below hb⟩

/-- Block 'b' holds the windows 'ws' and the spots 'sh'. -/
def ChB (W0 w : World) (b : Nat) (ws : List (List ItemL)) (sh : List (List Spot)) : Prop :=
  b < w.heap.size ∧ ∃ a c a' c', w.cell? ⟨b, 0, none⟩ = some (.slice a ws.length c) ∧ ws.length ≤ c ∧ w.cell? ⟨b, 1, none⟩ = some (.slice a' sh.length c') ∧ sh.length ≤ c' ∧ RowV W0 w a ws ∧ RowG w a' sh
theorem ChB.below {W0 w w' : World} {b : Nat} {ws : List (List ItemL)} {sh : List (List Spot)} (h : ChB W0 w b ws sh) (hb : Below w.heap.size w w') : ChB W0 w' b ws sh := by
  obtain ⟨h0, a, c, a', c', h1, h2, h3, h4, h5, h6⟩ := h
  exact ⟨Nat.lt_of_lt_of_le h0 hb.size, a, c, a', c', cell_on hb h0 h1, h2, cell_on hb h0 h3, h4, h5.below hb, h6.below hb⟩

end Go.Proofs.Ytpfhegengmlkmac
