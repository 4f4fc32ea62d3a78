/- Walk: toGather. -/
import Derived.Test.YtpfhegengmlkmacGaL
namespace Go.Proofs.Ytpfhegengmlkmac
open Go.RowKit Go.BigFrame

theorem PartS.setOther {w : World} {b k : Nat} {l : List ByteArray} (h : PartS w b l k) {q : Nat} (hq : b ≠ q) (i : Nat) (v : Value) : PartS (w.setCell ⟨q, i, none⟩ v) b l k := by
  obtain ⟨f, h, hf⟩ := h
  exact ⟨f, h.of_block (Below.heap_setCell _ _ _ _ (by simp only; omega)), hf⟩
theorem PartW.setBelow {w : World} {lo T g k q : Nat} {ws : List (List ItemL)} (h : PartW w lo T g ws k) (hq : q < lo) (hg : g ≠ q) (i : Nat) (v : Value) : PartW (w.setCell ⟨q, i, none⟩ v) lo T g ws k := by
  obtain ⟨L, U, G, f, h, hf, hd⟩ := h
  refine ⟨L, U, G, f, h.of_block (Below.heap_setCell _ _ _ _ (by simp only; omega)), fun j hj hk => ?_, hd⟩
  obtain ⟨h1, h2, h3, h4, h5, h6⟩ := hf j hj hk
  exact ⟨h1, h2.setBelow (by omega) (by omega) _ _, h3, h4, h5, h6⟩

set_option maxHeartbeats 3200000 in
theorem toGather_any (a0 a1 a2 : Option Addr) (c0 c1 c2 : Nat) (g : GatL) (w : World) (r0 : RowS w a0 g.ins) (r1 : RowW w a1 g.wins) (r2 : Row w a2 g.shown) (hs : SmallG 1048576 g) :
    Calls Try.prog 45 #[.agg #[.slice a0 g.ins.length c0, .slice a1 g.wins.length c1, .slice a2 g.shown.length c2]] w fun e w' => (∃ b0 b1 b2 lo hi, e = .returned (.agg #[.slice (some ⟨b0, 0, none⟩) g.ins.length g.ins.length, .slice (some ⟨b1, 0, none⟩) g.wins.length g.wins.length, .slice (some ⟨b2, 0, none⟩) g.shown.length g.shown.length]) ∧
      w.heap.size ≤ b0 ∧ b0 < b1 ∧ b1 < lo ∧ hi ≤ b2 ∧ PartS w' b0 g.ins g.ins.length ∧ PartW w' lo hi b1 g.wins g.wins.length ∧ Own w' b2 g.shown) ∧ Below w.heap.size w w' := by
  have hl0 : g.ins.length ≤ 1048576 := by have := hs.ins.1; omega
  have hl1 : g.wins.length ≤ 1048576 := by have := hs.wins.1; omega
  have hl2 : g.shown.length ≤ 1048576 := by have := hs.shown.1; omega
  have hw : ∀ j, (h : j < g.wins.length) → g.wins[j].length ≤ 1048576 ∧ ∀ i, (h' : i < g.wins[j].length) → g.wins[j][i].2.length ≤ 1048576 := fun j hj => ⟨by have := (hs.wins.2 j hj).1; omega, fun i hi => by have := ((hs.wins.2 j hj).2 i hi).1; omega⟩
  clear hs
  have hb0 : Below w.heap.size w (((w.alloc (.cells #[.slice a0 g.ins.length c0, .slice a1 g.wins.length c1, .slice a2 g.shown.length c2] 63)).alloc (.cells #[.slice none 0 0, .slice none 0 0, .slice none 0 0] 53)).alloc (.cells #[.slice none 0 0, .slice none 0 0, .slice none 0 0] 53)) := (((Below.refl _ _).alloc (Nat.le_refl _) _).alloc (by simp) _).alloc (by simp; omega) _
  have hsz : (((w.alloc (.cells #[.slice a0 g.ins.length c0, .slice a1 g.wins.length c1, .slice a2 g.shown.length c2] 63)).alloc (.cells #[.slice none 0 0, .slice none 0 0, .slice none 0 0] 53)).alloc (.cells #[.slice none 0 0, .slice none 0 0, .slice none 0 0] 53)).heap.size = w.heap.size + 3 := by simp
  have x1 : (((w.alloc (.cells #[.slice a0 g.ins.length c0, .slice a1 g.wins.length c1, .slice a2 g.shown.length c2] 63)).alloc (.cells #[.slice none 0 0, .slice none 0 0, .slice none 0 0] 53)).alloc (.cells #[.slice none 0 0, .slice none 0 0, .slice none 0 0] 53)).cell? ⟨w.heap.size, 1, none⟩ = some (.slice a1 g.wins.length c1) := by simp [go_sem]
  have x2 : (((w.alloc (.cells #[.slice a0 g.ins.length c0, .slice a1 g.wins.length c1, .slice a2 g.shown.length c2] 63)).alloc (.cells #[.slice none 0 0, .slice none 0 0, .slice none 0 0] 53)).alloc (.cells #[.slice none 0 0, .slice none 0 0, .slice none 0 0] 53)).cell? ⟨w.heap.size, 2, none⟩ = some (.slice a2 g.shown.length c2) := by simp [go_sem]
  have y0 : (((w.alloc (.cells #[.slice a0 g.ins.length c0, .slice a1 g.wins.length c1, .slice a2 g.shown.length c2] 63)).alloc (.cells #[.slice none 0 0, .slice none 0 0, .slice none 0 0] 53)).alloc (.cells #[.slice none 0 0, .slice none 0 0, .slice none 0 0] 53)).cell? ⟨w.heap.size + 1, 0, none⟩ = some (.slice none 0 0) := by simp [go_sem]
  have fy0 : (((w.alloc (.cells #[.slice a0 g.ins.length c0, .slice a1 g.wins.length c1, .slice a2 g.shown.length c2] 63)).alloc (.cells #[.slice none 0 0, .slice none 0 0, .slice none 0 0] 53)).alloc (.cells #[.slice none 0 0, .slice none 0 0, .slice none 0 0] 53)).frozen? ⟨w.heap.size + 1, 0, none⟩ = false := by simp [go_sem]
  have y1 : (((w.alloc (.cells #[.slice a0 g.ins.length c0, .slice a1 g.wins.length c1, .slice a2 g.shown.length c2] 63)).alloc (.cells #[.slice none 0 0, .slice none 0 0, .slice none 0 0] 53)).alloc (.cells #[.slice none 0 0, .slice none 0 0, .slice none 0 0] 53)).cell? ⟨w.heap.size + 1, 1, none⟩ = some (.slice none 0 0) := by simp [go_sem]
  have fy1 : (((w.alloc (.cells #[.slice a0 g.ins.length c0, .slice a1 g.wins.length c1, .slice a2 g.shown.length c2] 63)).alloc (.cells #[.slice none 0 0, .slice none 0 0, .slice none 0 0] 53)).alloc (.cells #[.slice none 0 0, .slice none 0 0, .slice none 0 0] 53)).frozen? ⟨w.heap.size + 1, 1, none⟩ = false := by simp [go_sem]
  have y2 : (((w.alloc (.cells #[.slice a0 g.ins.length c0, .slice a1 g.wins.length c1, .slice a2 g.shown.length c2] 63)).alloc (.cells #[.slice none 0 0, .slice none 0 0, .slice none 0 0] 53)).alloc (.cells #[.slice none 0 0, .slice none 0 0, .slice none 0 0] 53)).cell? ⟨w.heap.size + 1, 2, none⟩ = some (.slice none 0 0) := by simp [go_sem]
  have fy2 : (((w.alloc (.cells #[.slice a0 g.ins.length c0, .slice a1 g.wins.length c1, .slice a2 g.shown.length c2] 63)).alloc (.cells #[.slice none 0 0, .slice none 0 0, .slice none 0 0] 53)).alloc (.cells #[.slice none 0 0, .slice none 0 0, .slice none 0 0] 53)).frozen? ⟨w.heap.size + 1, 2, none⟩ = false := by simp [go_sem]
  have z0 : (((w.alloc (.cells #[.slice a0 g.ins.length c0, .slice a1 g.wins.length c1, .slice a2 g.shown.length c2] 63)).alloc (.cells #[.slice none 0 0, .slice none 0 0, .slice none 0 0] 53)).alloc (.cells #[.slice none 0 0, .slice none 0 0, .slice none 0 0] 53)).cell? ⟨w.heap.size + 1 + 1, 0, none⟩ = some (.slice none 0 0) := by simp [go_sem]
  have fz0 : (((w.alloc (.cells #[.slice a0 g.ins.length c0, .slice a1 g.wins.length c1, .slice a2 g.shown.length c2] 63)).alloc (.cells #[.slice none 0 0, .slice none 0 0, .slice none 0 0] 53)).alloc (.cells #[.slice none 0 0, .slice none 0 0, .slice none 0 0] 53)).frozen? ⟨w.heap.size + 1 + 1, 0, none⟩ = false := by simp [go_sem]
  have z1 : (((w.alloc (.cells #[.slice a0 g.ins.length c0, .slice a1 g.wins.length c1, .slice a2 g.shown.length c2] 63)).alloc (.cells #[.slice none 0 0, .slice none 0 0, .slice none 0 0] 53)).alloc (.cells #[.slice none 0 0, .slice none 0 0, .slice none 0 0] 53)).cell? ⟨w.heap.size + 1 + 1, 1, none⟩ = some (.slice none 0 0) := by simp [go_sem]
  have fz1 : (((w.alloc (.cells #[.slice a0 g.ins.length c0, .slice a1 g.wins.length c1, .slice a2 g.shown.length c2] 63)).alloc (.cells #[.slice none 0 0, .slice none 0 0, .slice none 0 0] 53)).alloc (.cells #[.slice none 0 0, .slice none 0 0, .slice none 0 0] 53)).frozen? ⟨w.heap.size + 1 + 1, 1, none⟩ = false := by simp [go_sem]
  have z2 : (((w.alloc (.cells #[.slice a0 g.ins.length c0, .slice a1 g.wins.length c1, .slice a2 g.shown.length c2] 63)).alloc (.cells #[.slice none 0 0, .slice none 0 0, .slice none 0 0] 53)).alloc (.cells #[.slice none 0 0, .slice none 0 0, .slice none 0 0] 53)).cell? ⟨w.heap.size + 1 + 1, 2, none⟩ = some (.slice none 0 0) := by simp [go_sem]
  have fz2 : (((w.alloc (.cells #[.slice a0 g.ins.length c0, .slice a1 g.wins.length c1, .slice a2 g.shown.length c2] 63)).alloc (.cells #[.slice none 0 0, .slice none 0 0, .slice none 0 0] 53)).alloc (.cells #[.slice none 0 0, .slice none 0 0, .slice none 0 0] 53)).frozen? ⟨w.heap.size + 1 + 1, 2, none⟩ = false := by simp [go_sem]
  go_enter Try.func45, Try.ntmps45
  go_wp2_with fail
  generalize ((w.alloc (.cells #[.slice a0 g.ins.length c0, .slice a1 g.wins.length c1, .slice a2 g.shown.length c2] 63)).alloc (.cells #[.slice none 0 0, .slice none 0 0, .slice none 0 0] 53)).alloc (.cells #[.slice none 0 0, .slice none 0 0, .slice none 0 0] 53) = W0 at *
  refine (toStringS_any a0 c0 g.ins _ hl0 (r0.below hb0)).mono ?_
  rintro e w1 ⟨rfl, hp1, b1⟩
  have B1 : Below w.heap.size w w1 := hb0.trans (b1.mono hb0.size)
  have g1 := hp1.lt
  rw [hsz] at hp1 g1
  replace x1 := cell_on b1 (by omega) x1
  replace x2 := cell_on b1 (by omega) x2
  replace y0 := cell_on b1 (by omega) y0
  replace y1 := cell_on b1 (by omega) y1
  replace y2 := cell_on b1 (by omega) y2
  replace z0 := cell_on b1 (by omega) z0
  replace z1 := cell_on b1 (by omega) z1
  replace z2 := cell_on b1 (by omega) z2
  replace fy0 := (b1.frozen (p := ⟨w.heap.size + 1, 0, none⟩) (by simp only; omega)).trans fy0
  replace fy1 := (b1.frozen (p := ⟨w.heap.size + 1, 1, none⟩) (by simp only; omega)).trans fy1
  replace fy2 := (b1.frozen (p := ⟨w.heap.size + 1, 2, none⟩) (by simp only; omega)).trans fy2
  replace fz0 := (b1.frozen (p := ⟨w.heap.size + 1 + 1, 0, none⟩) (by simp only; omega)).trans fz0
  replace fz1 := (b1.frozen (p := ⟨w.heap.size + 1 + 1, 1, none⟩) (by simp only; omega)).trans fz1
  replace fz2 := (b1.frozen (p := ⟨w.heap.size + 1 + 1, 2, none⟩) (by simp only; omega)).trans fz2
  clear b1 hb0
  go_wp2_with fail
  have hs0 : (w1.setCell ⟨w.heap.size + 1 + 1, 0, none⟩ (.slice (some ⟨w.heap.size + 3, 0, none⟩) g.ins.length g.ins.length)).heap.size = w1.heap.size := by simp
  replace x1 : (w1.setCell ⟨w.heap.size + 1 + 1, 0, none⟩ (.slice (some ⟨w.heap.size + 3, 0, none⟩) g.ins.length g.ins.length)).cell? ⟨w.heap.size, 1, none⟩ = some (.slice a1 g.wins.length c1) := by simp [go_sem, x1]
  replace x2 : (w1.setCell ⟨w.heap.size + 1 + 1, 0, none⟩ (.slice (some ⟨w.heap.size + 3, 0, none⟩) g.ins.length g.ins.length)).cell? ⟨w.heap.size, 2, none⟩ = some (.slice a2 g.shown.length c2) := by simp [go_sem, x2]
  replace y0 : (w1.setCell ⟨w.heap.size + 1 + 1, 0, none⟩ (.slice (some ⟨w.heap.size + 3, 0, none⟩) g.ins.length g.ins.length)).cell? ⟨w.heap.size + 1, 0, none⟩ = some (.slice none 0 0) := by simp [go_sem, y0]
  replace y1 : (w1.setCell ⟨w.heap.size + 1 + 1, 0, none⟩ (.slice (some ⟨w.heap.size + 3, 0, none⟩) g.ins.length g.ins.length)).cell? ⟨w.heap.size + 1, 1, none⟩ = some (.slice none 0 0) := by simp [go_sem, y1]
  replace y2 : (w1.setCell ⟨w.heap.size + 1 + 1, 0, none⟩ (.slice (some ⟨w.heap.size + 3, 0, none⟩) g.ins.length g.ins.length)).cell? ⟨w.heap.size + 1, 2, none⟩ = some (.slice none 0 0) := by simp [go_sem, y2]
  replace z0 : (w1.setCell ⟨w.heap.size + 1 + 1, 0, none⟩ (.slice (some ⟨w.heap.size + 3, 0, none⟩) g.ins.length g.ins.length)).cell? ⟨w.heap.size + 1 + 1, 0, none⟩ = some (.slice (some ⟨w.heap.size + 3, 0, none⟩) g.ins.length g.ins.length) := by simp [go_sem, z0]
  replace z1 : (w1.setCell ⟨w.heap.size + 1 + 1, 0, none⟩ (.slice (some ⟨w.heap.size + 3, 0, none⟩) g.ins.length g.ins.length)).cell? ⟨w.heap.size + 1 + 1, 1, none⟩ = some (.slice none 0 0) := by simp [go_sem, z1]
  replace z2 : (w1.setCell ⟨w.heap.size + 1 + 1, 0, none⟩ (.slice (some ⟨w.heap.size + 3, 0, none⟩) g.ins.length g.ins.length)).cell? ⟨w.heap.size + 1 + 1, 2, none⟩ = some (.slice none 0 0) := by simp [go_sem, z2]
  replace fy0 : (w1.setCell ⟨w.heap.size + 1 + 1, 0, none⟩ (.slice (some ⟨w.heap.size + 3, 0, none⟩) g.ins.length g.ins.length)).frozen? ⟨w.heap.size + 1, 0, none⟩ = false := by simp [go_sem, fy0]
  replace fy1 : (w1.setCell ⟨w.heap.size + 1 + 1, 0, none⟩ (.slice (some ⟨w.heap.size + 3, 0, none⟩) g.ins.length g.ins.length)).frozen? ⟨w.heap.size + 1, 1, none⟩ = false := by simp [go_sem, fy1]
  replace fy2 : (w1.setCell ⟨w.heap.size + 1 + 1, 0, none⟩ (.slice (some ⟨w.heap.size + 3, 0, none⟩) g.ins.length g.ins.length)).frozen? ⟨w.heap.size + 1, 2, none⟩ = false := by simp [go_sem, fy2]
  replace fz0 : (w1.setCell ⟨w.heap.size + 1 + 1, 0, none⟩ (.slice (some ⟨w.heap.size + 3, 0, none⟩) g.ins.length g.ins.length)).frozen? ⟨w.heap.size + 1 + 1, 0, none⟩ = false := by simp [go_sem, fz0]
  replace fz1 : (w1.setCell ⟨w.heap.size + 1 + 1, 0, none⟩ (.slice (some ⟨w.heap.size + 3, 0, none⟩) g.ins.length g.ins.length)).frozen? ⟨w.heap.size + 1 + 1, 1, none⟩ = false := by simp [go_sem, fz1]
  replace fz2 : (w1.setCell ⟨w.heap.size + 1 + 1, 0, none⟩ (.slice (some ⟨w.heap.size + 3, 0, none⟩) g.ins.length g.ins.length)).frozen? ⟨w.heap.size + 1 + 1, 2, none⟩ = false := by simp [go_sem, fz2]
  replace B1 : Below w.heap.size w (w1.setCell ⟨w.heap.size + 1 + 1, 0, none⟩ (.slice (some ⟨w.heap.size + 3, 0, none⟩) g.ins.length g.ins.length)) := B1.setCell (by simp only; omega) _
  replace hp1 : PartS (w1.setCell ⟨w.heap.size + 1 + 1, 0, none⟩ (.slice (some ⟨w.heap.size + 3, 0, none⟩) g.ins.length g.ins.length)) (w.heap.size + 3) g.ins g.ins.length := hp1.setOther (by omega) _ _
  generalize w1.setCell ⟨w.heap.size + 1 + 1, 0, none⟩ (.slice (some ⟨w.heap.size + 3, 0, none⟩) g.ins.length g.ins.length) = W1 at *
  replace hs0 : w1.heap.size ≤ W1.heap.size := by omega
  refine (toItemSS_any a1 c1 g.wins _ hl1 hw (r1.below B1)).mono ?_
  rintro e w2 ⟨rfl, hp2, b2⟩
  have B2 : Below w.heap.size w w2 := B1.trans (b2.mono B1.size)
  have g2 := hp2.lt
  have z2' := b2.size
  replace hp1 := hp1.below (by omega) b2
  replace x2 := cell_on b2 (by omega) x2
  replace y0 := cell_on b2 (by omega) y0
  replace y1 := cell_on b2 (by omega) y1
  replace y2 := cell_on b2 (by omega) y2
  replace z0 := cell_on b2 (by omega) z0
  replace z1 := cell_on b2 (by omega) z1
  replace z2 := cell_on b2 (by omega) z2
  replace fy0 := (b2.frozen (p := ⟨w.heap.size + 1, 0, none⟩) (by simp only; omega)).trans fy0
  replace fy1 := (b2.frozen (p := ⟨w.heap.size + 1, 1, none⟩) (by simp only; omega)).trans fy1
  replace fy2 := (b2.frozen (p := ⟨w.heap.size + 1, 2, none⟩) (by simp only; omega)).trans fy2
  replace fz0 := (b2.frozen (p := ⟨w.heap.size + 1 + 1, 0, none⟩) (by simp only; omega)).trans fz0
  replace fz1 := (b2.frozen (p := ⟨w.heap.size + 1 + 1, 1, none⟩) (by simp only; omega)).trans fz1
  replace fz2 := (b2.frozen (p := ⟨w.heap.size + 1 + 1, 2, none⟩) (by simp only; omega)).trans fz2
  clear b2 B1 x1
  generalize W1.heap.size = lo at *
  go_wp2_with fail
  have hs1 : (w2.setCell ⟨w.heap.size + 1 + 1, 1, none⟩ (.slice (some ⟨lo, 0, none⟩) g.wins.length g.wins.length)).heap.size = w2.heap.size := by simp
  replace x2 : (w2.setCell ⟨w.heap.size + 1 + 1, 1, none⟩ (.slice (some ⟨lo, 0, none⟩) g.wins.length g.wins.length)).cell? ⟨w.heap.size, 2, none⟩ = some (.slice a2 g.shown.length c2) := by simp [go_sem, x2]
  replace y0 : (w2.setCell ⟨w.heap.size + 1 + 1, 1, none⟩ (.slice (some ⟨lo, 0, none⟩) g.wins.length g.wins.length)).cell? ⟨w.heap.size + 1, 0, none⟩ = some (.slice none 0 0) := by simp [go_sem, y0]
  replace y1 : (w2.setCell ⟨w.heap.size + 1 + 1, 1, none⟩ (.slice (some ⟨lo, 0, none⟩) g.wins.length g.wins.length)).cell? ⟨w.heap.size + 1, 1, none⟩ = some (.slice none 0 0) := by simp [go_sem, y1]
  replace y2 : (w2.setCell ⟨w.heap.size + 1 + 1, 1, none⟩ (.slice (some ⟨lo, 0, none⟩) g.wins.length g.wins.length)).cell? ⟨w.heap.size + 1, 2, none⟩ = some (.slice none 0 0) := by simp [go_sem, y2]
  replace z0 : (w2.setCell ⟨w.heap.size + 1 + 1, 1, none⟩ (.slice (some ⟨lo, 0, none⟩) g.wins.length g.wins.length)).cell? ⟨w.heap.size + 1 + 1, 0, none⟩ = some (.slice (some ⟨w.heap.size + 3, 0, none⟩) g.ins.length g.ins.length) := by simp [go_sem, z0]
  replace z1 : (w2.setCell ⟨w.heap.size + 1 + 1, 1, none⟩ (.slice (some ⟨lo, 0, none⟩) g.wins.length g.wins.length)).cell? ⟨w.heap.size + 1 + 1, 1, none⟩ = some (.slice (some ⟨lo, 0, none⟩) g.wins.length g.wins.length) := by simp [go_sem, z1]
  replace z2 : (w2.setCell ⟨w.heap.size + 1 + 1, 1, none⟩ (.slice (some ⟨lo, 0, none⟩) g.wins.length g.wins.length)).cell? ⟨w.heap.size + 1 + 1, 2, none⟩ = some (.slice none 0 0) := by simp [go_sem, z2]
  replace fy0 : (w2.setCell ⟨w.heap.size + 1 + 1, 1, none⟩ (.slice (some ⟨lo, 0, none⟩) g.wins.length g.wins.length)).frozen? ⟨w.heap.size + 1, 0, none⟩ = false := by simp [go_sem, fy0]
  replace fy1 : (w2.setCell ⟨w.heap.size + 1 + 1, 1, none⟩ (.slice (some ⟨lo, 0, none⟩) g.wins.length g.wins.length)).frozen? ⟨w.heap.size + 1, 1, none⟩ = false := by simp [go_sem, fy1]
  replace fy2 : (w2.setCell ⟨w.heap.size + 1 + 1, 1, none⟩ (.slice (some ⟨lo, 0, none⟩) g.wins.length g.wins.length)).frozen? ⟨w.heap.size + 1, 2, none⟩ = false := by simp [go_sem, fy2]
  replace fz0 : (w2.setCell ⟨w.heap.size + 1 + 1, 1, none⟩ (.slice (some ⟨lo, 0, none⟩) g.wins.length g.wins.length)).frozen? ⟨w.heap.size + 1 + 1, 0, none⟩ = false := by simp [go_sem, fz0]
  replace fz1 : (w2.setCell ⟨w.heap.size + 1 + 1, 1, none⟩ (.slice (some ⟨lo, 0, none⟩) g.wins.length g.wins.length)).frozen? ⟨w.heap.size + 1 + 1, 1, none⟩ = false := by simp [go_sem, fz1]
  replace fz2 : (w2.setCell ⟨w.heap.size + 1 + 1, 1, none⟩ (.slice (some ⟨lo, 0, none⟩) g.wins.length g.wins.length)).frozen? ⟨w.heap.size + 1 + 1, 2, none⟩ = false := by simp [go_sem, fz2]
  replace B2 : Below w.heap.size w (w2.setCell ⟨w.heap.size + 1 + 1, 1, none⟩ (.slice (some ⟨lo, 0, none⟩) g.wins.length g.wins.length)) := B2.setCell (by simp only; omega) _
  replace hp1 : PartS (w2.setCell ⟨w.heap.size + 1 + 1, 1, none⟩ (.slice (some ⟨lo, 0, none⟩) g.wins.length g.wins.length)) (w.heap.size + 3) g.ins g.ins.length := hp1.setOther (by omega) _ _
  replace hp2 : PartW (w2.setCell ⟨w.heap.size + 1 + 1, 1, none⟩ (.slice (some ⟨lo, 0, none⟩) g.wins.length g.wins.length)) (lo + 1) w2.heap.size lo g.wins g.wins.length := hp2.setBelow (by omega) (by omega) _ _
  generalize w2.setCell ⟨w.heap.size + 1 + 1, 1, none⟩ (.slice (some ⟨lo, 0, none⟩) g.wins.length g.wins.length) = W2 at *
  replace hs1 : w2.heap.size ≤ W2.heap.size := by omega
  refine (toMarkS_any a2 c2 g.shown _ hl2 (r2.below B2)).mono ?_
  rintro e w3 ⟨rfl, hp3, b3⟩
  have B3 : Below w.heap.size w w3 := B2.trans (b3.mono B2.size)
  have g3 := hp3.lt
  have z3' := b3.size
  replace hp1 := hp1.below (by omega) b3
  replace hp2 := hp2.below b3
  replace y0 := cell_on b3 (by omega) y0
  replace y1 := cell_on b3 (by omega) y1
  replace y2 := cell_on b3 (by omega) y2
  replace z0 := cell_on b3 (by omega) z0
  replace z1 := cell_on b3 (by omega) z1
  replace z2 := cell_on b3 (by omega) z2
  replace fy0 := (b3.frozen (p := ⟨w.heap.size + 1, 0, none⟩) (by simp only; omega)).trans fy0
  replace fy1 := (b3.frozen (p := ⟨w.heap.size + 1, 1, none⟩) (by simp only; omega)).trans fy1
  replace fy2 := (b3.frozen (p := ⟨w.heap.size + 1, 2, none⟩) (by simp only; omega)).trans fy2
  replace fz0 := (b3.frozen (p := ⟨w.heap.size + 1 + 1, 0, none⟩) (by simp only; omega)).trans fz0
  replace fz1 := (b3.frozen (p := ⟨w.heap.size + 1 + 1, 1, none⟩) (by simp only; omega)).trans fz1
  replace fz2 := (b3.frozen (p := ⟨w.heap.size + 1 + 1, 2, none⟩) (by simp only; omega)).trans fz2
  clear b3 B2 x2
  generalize W2.heap.size = hi at *
  go_wp2_with fail
  have e0 : ((((w3.setCell ⟨w.heap.size + 1 + 1, 2, none⟩ (.slice (some ⟨hi, 0, none⟩) g.shown.length g.shown.length)).setCell ⟨w.heap.size + 1, 0, none⟩ (.slice (some ⟨w.heap.size + 3, 0, none⟩) g.ins.length g.ins.length)).setCell ⟨w.heap.size + 1, 1, none⟩ (.slice (some ⟨lo, 0, none⟩) g.wins.length g.wins.length)).setCell ⟨w.heap.size + 1, 2, none⟩ (.slice (some ⟨hi, 0, none⟩) g.shown.length g.shown.length)).cell? ⟨w.heap.size + 1, 0, none⟩ = some (.slice (some ⟨w.heap.size + 3, 0, none⟩) g.ins.length g.ins.length) := by simp [go_sem, y0]
  have e1 : ((((w3.setCell ⟨w.heap.size + 1 + 1, 2, none⟩ (.slice (some ⟨hi, 0, none⟩) g.shown.length g.shown.length)).setCell ⟨w.heap.size + 1, 0, none⟩ (.slice (some ⟨w.heap.size + 3, 0, none⟩) g.ins.length g.ins.length)).setCell ⟨w.heap.size + 1, 1, none⟩ (.slice (some ⟨lo, 0, none⟩) g.wins.length g.wins.length)).setCell ⟨w.heap.size + 1, 2, none⟩ (.slice (some ⟨hi, 0, none⟩) g.shown.length g.shown.length)).cell? ⟨w.heap.size + 1, 1, none⟩ = some (.slice (some ⟨lo, 0, none⟩) g.wins.length g.wins.length) := by simp [go_sem, y1]
  have e2 : ((((w3.setCell ⟨w.heap.size + 1 + 1, 2, none⟩ (.slice (some ⟨hi, 0, none⟩) g.shown.length g.shown.length)).setCell ⟨w.heap.size + 1, 0, none⟩ (.slice (some ⟨w.heap.size + 3, 0, none⟩) g.ins.length g.ins.length)).setCell ⟨w.heap.size + 1, 1, none⟩ (.slice (some ⟨lo, 0, none⟩) g.wins.length g.wins.length)).setCell ⟨w.heap.size + 1, 2, none⟩ (.slice (some ⟨hi, 0, none⟩) g.shown.length g.shown.length)).cell? ⟨w.heap.size + 1, 2, none⟩ = some (.slice (some ⟨hi, 0, none⟩) g.shown.length g.shown.length) := by simp [go_sem, y2]
  exact bodyPost_ret (v := .agg #[.slice (some ⟨w.heap.size + 3, 0, none⟩) g.ins.length g.ins.length, .slice (some ⟨lo, 0, none⟩) g.wins.length g.wins.length, .slice (some ⟨hi, 0, none⟩) g.shown.length g.shown.length]) (by simp [results, Try.results45, go_sem, e0, e1, e2]) rfl
    ⟨⟨w.heap.size + 3, lo, hi, lo + 1, w2.heap.size, rfl, by omega, by omega, by omega, by omega, (((hp1.setOther (by omega) _ _).setOther (by omega) _ _).setOther (by omega) _ _).setOther (by omega) _ _, (((hp2.setBelow (by omega) (by omega) _ _).setBelow (by omega) (by omega) _ _).setBelow (by omega) (by omega) _ _).setBelow (by omega) (by omega) _ _, (((hp3.setOther (by omega) _ _).setOther (by omega) _ _).setOther (by omega) _ _).setOther (by omega) _ _⟩,
      (((B3.setCell (by simp only; omega) _).setCell (by simp only; omega) _).setCell (by simp only; omega) _).setCell (by simp only; omega) _⟩

end Go.Proofs.Ytpfhegengmlkmac
