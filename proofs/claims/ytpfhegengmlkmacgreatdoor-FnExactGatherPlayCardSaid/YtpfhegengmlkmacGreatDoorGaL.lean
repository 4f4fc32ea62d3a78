/- Walks: szGather, eqGather at two gathers of the same. -/
import Derived.Test.YtpfhegengmlkmacGreatDoorItH
import Derived.Test.YtpfhegengmlkmacGreatDoorStrs
namespace Go.Proofs.YtpfhegengmlkmacGreatDoor
open Go.RowKit Go.BigFrame

def FitS (l : List ByteArray) : Prop := l.length ≤ maxLen ∧ ∀ j, (h : j < l.length) → l[j].size ≤ maxLen
def SmallS (n : Int) (l : List ByteArray) : Prop := (l.length : Int) ≤ n ∧ ∀ j, (h : j < l.length) → (l[j].size : Int) ≤ n
theorem SmallS.mono {n m : Int} {l : List ByteArray} (h : SmallS n l) (hm : n ≤ m) : SmallS m l := ⟨by have := h.1; omega, fun j hj => by have := h.2 j hj; omega⟩
theorem SmallW.mono {n m : Int} {l : List (List ItemL)} (h : SmallW n l) (hm : n ≤ m) : SmallW m l := ⟨by have := h.1; omega, fun j hj => (h.2 j hj).mono hm⟩
/-- A gather: its inputs' names, its windows, and what it showed. -/
structure GatL where
  ins : List ByteArray
  wins : List (List ItemL)
  shown : List (ByteArray × Int)
structure FitG (g : GatL) : Prop where
  ins : FitS g.ins
  wins : FitW g.wins
  shown : FitM g.shown
structure SmallG (n : Int) (g : GatL) : Prop where
  ins : SmallS n g.ins
  wins : SmallW n g.wins
  shown : SmallM n g.shown
/-- The value 'v' is the gather 'g'. -/
def IsGa (w : World) (v : Value) (g : GatL) : Prop := ∃ a0 c0 a1 c1 a2 c2, v = .agg #[.slice a0 g.ins.length c0, .slice a1 g.wins.length c1, .slice a2 g.shown.length c2] ∧ g.ins.length ≤ c0 ∧ g.wins.length ≤ c1 ∧ g.shown.length ≤ c2 ∧ RowS w a0 g.ins ∧ RowW w a1 g.wins ∧ Row w a2 g.shown
theorem IsGa.below {w w' : World} {v : Value} {g : GatL} (h : IsGa w v g) (hb : Below w.heap.size w w') : IsGa w' v g := by
  obtain ⟨a0, c0, a1, c1, a2, c2, h1, h2, h3, h4, h5, h6, h7⟩ := h
  exact ⟨a0, c0, a1, c1, a2, c2, h1, h2, h3, h4, h5.below hb, h6.below hb, h7.below hb⟩

set_option maxHeartbeats 800000 in
theorem szGather_any (a0 a1 a2 : Option Addr) (c0 c1 c2 : Nat) (g : GatL) (left : Int) (w : World) (r0 : RowS w a0 g.ins) (r1 : RowW w a1 g.wins) (r2 : Row w a2 g.shown) (hf : FitG g) (h0 : 0 ≤ left) (h1 : left ≤ 1048576) :
    Calls Tryz.prog 6 #[.agg #[.slice a0 g.ins.length c0, .slice a1 g.wins.length c1, .slice a2 g.shown.length c2], .int .i64 left] w fun e w' => ∃ r : Int, e = .returned (.int .i64 r) ∧ -1 ≤ r ∧ r ≤ left ∧ (0 ≤ r → SmallG left g) ∧ Below w.heap.size w w' := by
  have hb0 : Below w.heap.size w (w.alloc (.cells #[.slice a0 g.ins.length c0, .slice a1 g.wins.length c1, .slice a2 g.shown.length c2] 26)) := (Below.refl _ _).alloc (Nat.le_refl _) _
  have hlt := box_lt w (.cells #[.slice a0 g.ins.length c0, .slice a1 g.wins.length c1, .slice a2 g.shown.length c2] 26)
  have d1 : (w.alloc (.cells #[.slice a0 g.ins.length c0, .slice a1 g.wins.length c1, .slice a2 g.shown.length c2] 26)).cell? ⟨w.heap.size, 1, none⟩ = some (.slice a1 g.wins.length c1) := by simp [go_sem]
  have d2 : (w.alloc (.cells #[.slice a0 g.ins.length c0, .slice a1 g.wins.length c1, .slice a2 g.shown.length c2] 26)).cell? ⟨w.heap.size, 2, none⟩ = some (.slice a2 g.shown.length c2) := by simp [go_sem]
  go_enter Tryz.func6, Tryz.ntmps6
  go_wp2_with fail
  generalize w.alloc (.cells #[.slice a0 g.ins.length c0, .slice a1 g.wins.length c1, .slice a2 g.shown.length c2] 26) = W0 at *
  refine (szStringS_any a0 c0 g.ins left _ hf.ins.1 (r0.below hb0) hf.ins.2 h0 h1).mono ?_
  rintro e w1 ⟨⟨r, rfl, hr0, hr1, hr2⟩, rfl⟩
  have HS : Hid (0 ≤ r → SmallS left g.ins) := hr2
  clear hr2
  by_cases hneg : r < 0
  · go_wp2_with fail
    go_ret
    exact ⟨-1, rfl, by omega, by omega, fun h => by omega, hb0⟩
  go_wp2_with fail
  refine (szItemSS_any a1 c1 g.wins r _ (r1.below hb0) hf.wins (by omega) (by omega)).mono ?_
  rintro e w2 ⟨r', rfl, hs0, hs1, hs2, b2⟩
  have HW : Hid (0 ≤ r' → SmallW r g.wins) := hs2
  clear hs2
  have B2 : Below w.heap.size w w2 := hb0.trans (b2.mono hb0.size)
  replace d2 := cell_on b2 hlt d2
  by_cases hneg2 : r' < 0
  · go_wp2_with fail
    go_ret
    exact ⟨-1, rfl, by omega, by omega, fun h => by omega, B2⟩
  go_wp2_with fail
  refine (szMarkS_any a2 c2 g.shown r' _ hf.shown.1 (r2.below B2) hf.shown.2 (by omega) (by omega)).mono ?_
  rintro e w3 ⟨r'', rfl, ht0, ht1, ht2, b3⟩
  have HM : Hid (0 ≤ r'' → SmallM r' g.shown) := ht2
  clear ht2
  have B3 : Below w.heap.size w w3 := B2.trans (b3.mono B2.size)
  by_cases hneg3 : r'' < 0
  · go_wp2_with fail
    go_ret
    exact ⟨-1, rfl, by omega, by omega, fun h => by omega, B3⟩
  go_wp2_with fail
  go_ret
  exact ⟨r'', rfl, ht0, by omega, fun h => ⟨HS.out (by omega), (HW.out (by omega)).mono hr1, (HM.out h).mono (by omega)⟩, B3⟩

set_option maxHeartbeats 800000 in
theorem eqGather_same (a0 a1 a2 b0 b1 b2 : Option Addr) (c0 c1 c2 d0 d1 d2 : Nat) (g : GatL) (w : World) (hf : FitG g) (r0 : RowS w a0 g.ins) (r1 : RowW w a1 g.wins) (r2 : Row w a2 g.shown) (q0 : RowS w b0 g.ins) (q1 : RowW w b1 g.wins) (q2 : Row w b2 g.shown) :
    Calls Tryz.prog 12 #[.agg #[.slice a0 g.ins.length c0, .slice a1 g.wins.length c1, .slice a2 g.shown.length c2], .agg #[.slice b0 g.ins.length d0, .slice b1 g.wins.length d1, .slice b2 g.shown.length d2]] w fun e w' => e = .returned (.bool true) ∧ Below w.heap.size w w' := by
  have hb0 : Below w.heap.size w ((w.alloc (.cells #[.slice a0 g.ins.length c0, .slice a1 g.wins.length c1, .slice a2 g.shown.length c2] 36)).alloc (.cells #[.slice b0 g.ins.length d0, .slice b1 g.wins.length d1, .slice b2 g.shown.length d2] 36)) := ((Below.refl _ _).alloc (Nat.le_refl _) _).alloc (by simp) _
  have hlt : w.heap.size + 1 < ((w.alloc (.cells #[.slice a0 g.ins.length c0, .slice a1 g.wins.length c1, .slice a2 g.shown.length c2] 36)).alloc (.cells #[.slice b0 g.ins.length d0, .slice b1 g.wins.length d1, .slice b2 g.shown.length d2] 36)).heap.size := by simp
  have x1 : ((w.alloc (.cells #[.slice a0 g.ins.length c0, .slice a1 g.wins.length c1, .slice a2 g.shown.length c2] 36)).alloc (.cells #[.slice b0 g.ins.length d0, .slice b1 g.wins.length d1, .slice b2 g.shown.length d2] 36)).cell? ⟨w.heap.size, 1, none⟩ = some (.slice a1 g.wins.length c1) := by simp [go_sem]
  have x2 : ((w.alloc (.cells #[.slice a0 g.ins.length c0, .slice a1 g.wins.length c1, .slice a2 g.shown.length c2] 36)).alloc (.cells #[.slice b0 g.ins.length d0, .slice b1 g.wins.length d1, .slice b2 g.shown.length d2] 36)).cell? ⟨w.heap.size, 2, none⟩ = some (.slice a2 g.shown.length c2) := by simp [go_sem]
  have y1 : ((w.alloc (.cells #[.slice a0 g.ins.length c0, .slice a1 g.wins.length c1, .slice a2 g.shown.length c2] 36)).alloc (.cells #[.slice b0 g.ins.length d0, .slice b1 g.wins.length d1, .slice b2 g.shown.length d2] 36)).cell? ⟨w.heap.size + 1, 1, none⟩ = some (.slice b1 g.wins.length d1) := by simp [go_sem]
  have y2 : ((w.alloc (.cells #[.slice a0 g.ins.length c0, .slice a1 g.wins.length c1, .slice a2 g.shown.length c2] 36)).alloc (.cells #[.slice b0 g.ins.length d0, .slice b1 g.wins.length d1, .slice b2 g.shown.length d2] 36)).cell? ⟨w.heap.size + 1, 2, none⟩ = some (.slice b2 g.shown.length d2) := by simp [go_sem]
  go_enter Tryz.func12, Tryz.ntmps12
  go_wp2_with fail
  generalize (w.alloc (.cells #[.slice a0 g.ins.length c0, .slice a1 g.wins.length c1, .slice a2 g.shown.length c2] 36)).alloc (.cells #[.slice b0 g.ins.length d0, .slice b1 g.wins.length d1, .slice b2 g.shown.length d2] 36) = W0 at *
  refine (eqStringS_same a0 b0 c0 d0 g.ins _ hf.ins.1 (r0.below hb0) (q0.below hb0)).mono ?_
  rintro e w1 ⟨rfl, hb1⟩
  have B1 : Below w.heap.size w w1 := hb0.trans (hb1.mono hb0.size)
  replace x1 := cell_on hb1 (by omega) x1
  replace x2 := cell_on hb1 (by omega) x2
  replace y1 := cell_on hb1 (by omega) y1
  replace y2 := cell_on hb1 (by omega) y2
  have z1 := hb1.size
  clear hb1
  go_wp2_with fail
  refine (eqItemSS_same a1 b1 c1 d1 g.wins _ hf.wins (r1.below B1) (q1.below B1)).mono ?_
  rintro e w2 ⟨rfl, hb2⟩
  have B2 : Below w.heap.size w w2 := B1.trans (hb2.mono B1.size)
  replace x2 := cell_on hb2 (by omega) x2
  replace y2 := cell_on hb2 (by omega) y2
  go_wp2_with fail
  refine (eqMarkS_same a2 b2 c2 d2 g.shown _ hf.shown.1 (r2.below B2) (q2.below B2)).mono ?_
  rintro e w3 ⟨rfl, hb3⟩
  go_wp2_with fail
  go_ret
  exact ⟨rfl, B2.trans (hb3.mono B2.size)⟩

end Go.Proofs.YtpfhegengmlkmacGreatDoor
