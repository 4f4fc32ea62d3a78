/- Texts of this claim, one behind the other. -/
import Derived.Test.YtpfhegengmlkmacGreatDoorGaL
import Derived.Test.YtpfhegengmlkmacGreatDoorWd
import Derived.Test.YtpfhegengmlkmacGreatDoorOnly
import Derived.Test.YtpfhegengmlkmacGreatDoorItD
import Derived.Test.YtpfhegengmlkmacGreatDoorItE
import Derived.Test.YtpfhegengmlkmacGreatDoorClone
import Derived.Test.YtpfhegengmlkmacGreatDoorChS
import Derived.Test.YtpfhegengmlkmacGreatDoorZPlOwn2
/- Walk: toGather. -/
namespace Go.Proofs.YtpfhegengmlkmacGreatDoor
open Go.RowKit Go.BigFrame

theorem PartS.setOther {w : World} {b k : Nat} {l : List ByteArray} (h : PartS w b l k) {q : Nat} (hq : b ≠ q) (i : Nat) (v : Value) : PartS (w.setCell ⟨q, i, none⟩ v) b l k := by
  obtain ⟨f, h, hf⟩ := h
  exact ⟨f, h.of_block (Below.heap_setCell _ _ _ _ (by simp only; omega)), hf⟩
theorem PartW.setBelow {w : World} {lo T g k q : Nat} {ws : List (List ItemL)} (h : PartW w lo T g ws k) (hq : q < lo) (hg : g ≠ q) (i : Nat) (v : Value) : PartW (w.setCell ⟨q, i, none⟩ v) lo T g ws k := by
  obtain ⟨L, U, G, f, h, hf, hd⟩ := h
  refine ⟨L, U, G, f, h.of_block (Below.heap_setCell _ _ _ _ (by simp only; omega)), fun j hj hk => ?_, hd⟩
  obtain ⟨h1, h2, h3, h4, h5, h6⟩ := hf j hj hk
  exact ⟨h1, h2.setBelow (by omega) (by omega) _ _, h3, h4, h5, h6⟩

set_option maxHeartbeats 3200000 in
theorem toGather_any (a0 a1 a2 : Option Addr) (c0 c1 c2 : Nat) (g : GatL) (w : World) (r0 : RowS w a0 g.ins) (r1 : RowW w a1 g.wins) (r2 : Row w a2 g.shown) (hs : SmallG 1048576 g) :
    Calls Tryz.prog 9 #[.agg #[.slice a0 g.ins.length c0, .slice a1 g.wins.length c1, .slice a2 g.shown.length c2]] w fun e w' => (∃ b0 b1 b2 lo hi, e = .returned (.agg #[.slice (some ⟨b0, 0, none⟩) g.ins.length g.ins.length, .slice (some ⟨b1, 0, none⟩) g.wins.length g.wins.length, .slice (some ⟨b2, 0, none⟩) g.shown.length g.shown.length]) ∧
      w.heap.size ≤ b0 ∧ b0 < b1 ∧ b1 < lo ∧ (lo ≤ hi ∧ hi ≤ b2) ∧ PartS w' b0 g.ins g.ins.length ∧ PartW w' lo hi b1 g.wins g.wins.length ∧ Own w' b2 g.shown) ∧ Below w.heap.size w w' := by
  have hl0 : g.ins.length ≤ 1048576 := by have := hs.ins.1; omega
  have hl1 : g.wins.length ≤ 1048576 := by have := hs.wins.1; omega
  have hl2 : g.shown.length ≤ 1048576 := by have := hs.shown.1; omega
  have hw : ∀ j, (h : j < g.wins.length) → g.wins[j].length ≤ 1048576 ∧ ∀ i, (h' : i < g.wins[j].length) → g.wins[j][i].2.length ≤ 1048576 := fun j hj => ⟨by have := (hs.wins.2 j hj).1; omega, fun i hi => by have := ((hs.wins.2 j hj).2 i hi).1; omega⟩
  clear hs
  have hb0 : Below w.heap.size w (((w.alloc (.cells #[.slice a0 g.ins.length c0, .slice a1 g.wins.length c1, .slice a2 g.shown.length c2] 26)).alloc (.cells #[.slice none 0 0, .slice none 0 0, .slice none 0 0] 36)).alloc (.cells #[.slice none 0 0, .slice none 0 0, .slice none 0 0] 36)) := (((Below.refl _ _).alloc (Nat.le_refl _) _).alloc (by simp) _).alloc (by simp; omega) _
  have hsz : (((w.alloc (.cells #[.slice a0 g.ins.length c0, .slice a1 g.wins.length c1, .slice a2 g.shown.length c2] 26)).alloc (.cells #[.slice none 0 0, .slice none 0 0, .slice none 0 0] 36)).alloc (.cells #[.slice none 0 0, .slice none 0 0, .slice none 0 0] 36)).heap.size = w.heap.size + 3 := by simp
  have x1 : (((w.alloc (.cells #[.slice a0 g.ins.length c0, .slice a1 g.wins.length c1, .slice a2 g.shown.length c2] 26)).alloc (.cells #[.slice none 0 0, .slice none 0 0, .slice none 0 0] 36)).alloc (.cells #[.slice none 0 0, .slice none 0 0, .slice none 0 0] 36)).cell? ⟨w.heap.size, 1, none⟩ = some (.slice a1 g.wins.length c1) := by simp [go_sem]
  have x2 : (((w.alloc (.cells #[.slice a0 g.ins.length c0, .slice a1 g.wins.length c1, .slice a2 g.shown.length c2] 26)).alloc (.cells #[.slice none 0 0, .slice none 0 0, .slice none 0 0] 36)).alloc (.cells #[.slice none 0 0, .slice none 0 0, .slice none 0 0] 36)).cell? ⟨w.heap.size, 2, none⟩ = some (.slice a2 g.shown.length c2) := by simp [go_sem]
  have y0 : (((w.alloc (.cells #[.slice a0 g.ins.length c0, .slice a1 g.wins.length c1, .slice a2 g.shown.length c2] 26)).alloc (.cells #[.slice none 0 0, .slice none 0 0, .slice none 0 0] 36)).alloc (.cells #[.slice none 0 0, .slice none 0 0, .slice none 0 0] 36)).cell? ⟨w.heap.size + 1, 0, none⟩ = some (.slice none 0 0) := by simp [go_sem]
  have fy0 : (((w.alloc (.cells #[.slice a0 g.ins.length c0, .slice a1 g.wins.length c1, .slice a2 g.shown.length c2] 26)).alloc (.cells #[.slice none 0 0, .slice none 0 0, .slice none 0 0] 36)).alloc (.cells #[.slice none 0 0, .slice none 0 0, .slice none 0 0] 36)).frozen? ⟨w.heap.size + 1, 0, none⟩ = false := by simp [go_sem]
  have y1 : (((w.alloc (.cells #[.slice a0 g.ins.length c0, .slice a1 g.wins.length c1, .slice a2 g.shown.length c2] 26)).alloc (.cells #[.slice none 0 0, .slice none 0 0, .slice none 0 0] 36)).alloc (.cells #[.slice none 0 0, .slice none 0 0, .slice none 0 0] 36)).cell? ⟨w.heap.size + 1, 1, none⟩ = some (.slice none 0 0) := by simp [go_sem]
  have fy1 : (((w.alloc (.cells #[.slice a0 g.ins.length c0, .slice a1 g.wins.length c1, .slice a2 g.shown.length c2] 26)).alloc (.cells #[.slice none 0 0, .slice none 0 0, .slice none 0 0] 36)).alloc (.cells #[.slice none 0 0, .slice none 0 0, .slice none 0 0] 36)).frozen? ⟨w.heap.size + 1, 1, none⟩ = false := by simp [go_sem]
  have y2 : (((w.alloc (.cells #[.slice a0 g.ins.length c0, .slice a1 g.wins.length c1, .slice a2 g.shown.length c2] 26)).alloc (.cells #[.slice none 0 0, .slice none 0 0, .slice none 0 0] 36)).alloc (.cells #[.slice none 0 0, .slice none 0 0, .slice none 0 0] 36)).cell? ⟨w.heap.size + 1, 2, none⟩ = some (.slice none 0 0) := by simp [go_sem]
  have fy2 : (((w.alloc (.cells #[.slice a0 g.ins.length c0, .slice a1 g.wins.length c1, .slice a2 g.shown.length c2] 26)).alloc (.cells #[.slice none 0 0, .slice none 0 0, .slice none 0 0] 36)).alloc (.cells #[.slice none 0 0, .slice none 0 0, .slice none 0 0] 36)).frozen? ⟨w.heap.size + 1, 2, none⟩ = false := by simp [go_sem]
  have z0 : (((w.alloc (.cells #[.slice a0 g.ins.length c0, .slice a1 g.wins.length c1, .slice a2 g.shown.length c2] 26)).alloc (.cells #[.slice none 0 0, .slice none 0 0, .slice none 0 0] 36)).alloc (.cells #[.slice none 0 0, .slice none 0 0, .slice none 0 0] 36)).cell? ⟨w.heap.size + 1 + 1, 0, none⟩ = some (.slice none 0 0) := by simp [go_sem]
  have fz0 : (((w.alloc (.cells #[.slice a0 g.ins.length c0, .slice a1 g.wins.length c1, .slice a2 g.shown.length c2] 26)).alloc (.cells #[.slice none 0 0, .slice none 0 0, .slice none 0 0] 36)).alloc (.cells #[.slice none 0 0, .slice none 0 0, .slice none 0 0] 36)).frozen? ⟨w.heap.size + 1 + 1, 0, none⟩ = false := by simp [go_sem]
  have z1 : (((w.alloc (.cells #[.slice a0 g.ins.length c0, .slice a1 g.wins.length c1, .slice a2 g.shown.length c2] 26)).alloc (.cells #[.slice none 0 0, .slice none 0 0, .slice none 0 0] 36)).alloc (.cells #[.slice none 0 0, .slice none 0 0, .slice none 0 0] 36)).cell? ⟨w.heap.size + 1 + 1, 1, none⟩ = some (.slice none 0 0) := by simp [go_sem]
  have fz1 : (((w.alloc (.cells #[.slice a0 g.ins.length c0, .slice a1 g.wins.length c1, .slice a2 g.shown.length c2] 26)).alloc (.cells #[.slice none 0 0, .slice none 0 0, .slice none 0 0] 36)).alloc (.cells #[.slice none 0 0, .slice none 0 0, .slice none 0 0] 36)).frozen? ⟨w.heap.size + 1 + 1, 1, none⟩ = false := by simp [go_sem]
  have z2 : (((w.alloc (.cells #[.slice a0 g.ins.length c0, .slice a1 g.wins.length c1, .slice a2 g.shown.length c2] 26)).alloc (.cells #[.slice none 0 0, .slice none 0 0, .slice none 0 0] 36)).alloc (.cells #[.slice none 0 0, .slice none 0 0, .slice none 0 0] 36)).cell? ⟨w.heap.size + 1 + 1, 2, none⟩ = some (.slice none 0 0) := by simp [go_sem]
  have fz2 : (((w.alloc (.cells #[.slice a0 g.ins.length c0, .slice a1 g.wins.length c1, .slice a2 g.shown.length c2] 26)).alloc (.cells #[.slice none 0 0, .slice none 0 0, .slice none 0 0] 36)).alloc (.cells #[.slice none 0 0, .slice none 0 0, .slice none 0 0] 36)).frozen? ⟨w.heap.size + 1 + 1, 2, none⟩ = false := by simp [go_sem]
  go_enter Tryz.func9, Tryz.ntmps9
  go_wp2_with fail
  generalize ((w.alloc (.cells #[.slice a0 g.ins.length c0, .slice a1 g.wins.length c1, .slice a2 g.shown.length c2] 26)).alloc (.cells #[.slice none 0 0, .slice none 0 0, .slice none 0 0] 36)).alloc (.cells #[.slice none 0 0, .slice none 0 0, .slice none 0 0] 36) = W0 at *
  refine (toStringS_any a0 c0 g.ins _ hl0 (r0.below hb0)).mono ?_
  rintro e w1 ⟨rfl, hp1, b1⟩
  have B1 : Below w.heap.size w w1 := hb0.trans (b1.mono hb0.size)
  have g1 := hp1.lt
  rw [hsz] at hp1 g1
  replace x1 := cell_on b1 (by omega) x1
  replace x2 := cell_on b1 (by omega) x2
  replace y0 := cell_on b1 (by omega) y0
  replace y1 := cell_on b1 (by omega) y1
  replace y2 := cell_on b1 (by omega) y2
  replace z0 := cell_on b1 (by omega) z0
  replace z1 := cell_on b1 (by omega) z1
  replace z2 := cell_on b1 (by omega) z2
  replace fy0 := (b1.frozen (p := ⟨w.heap.size + 1, 0, none⟩) (by simp only; omega)).trans fy0
  replace fy1 := (b1.frozen (p := ⟨w.heap.size + 1, 1, none⟩) (by simp only; omega)).trans fy1
  replace fy2 := (b1.frozen (p := ⟨w.heap.size + 1, 2, none⟩) (by simp only; omega)).trans fy2
  replace fz0 := (b1.frozen (p := ⟨w.heap.size + 1 + 1, 0, none⟩) (by simp only; omega)).trans fz0
  replace fz1 := (b1.frozen (p := ⟨w.heap.size + 1 + 1, 1, none⟩) (by simp only; omega)).trans fz1
  replace fz2 := (b1.frozen (p := ⟨w.heap.size + 1 + 1, 2, none⟩) (by simp only; omega)).trans fz2
  clear b1 hb0
  go_wp2_with fail
  have hs0 : (w1.setCell ⟨w.heap.size + 1 + 1, 0, none⟩ (.slice (some ⟨w.heap.size + 3, 0, none⟩) g.ins.length g.ins.length)).heap.size = w1.heap.size := by simp
  replace x1 : (w1.setCell ⟨w.heap.size + 1 + 1, 0, none⟩ (.slice (some ⟨w.heap.size + 3, 0, none⟩) g.ins.length g.ins.length)).cell? ⟨w.heap.size, 1, none⟩ = some (.slice a1 g.wins.length c1) := by simp [go_sem, x1]
  replace x2 : (w1.setCell ⟨w.heap.size + 1 + 1, 0, none⟩ (.slice (some ⟨w.heap.size + 3, 0, none⟩) g.ins.length g.ins.length)).cell? ⟨w.heap.size, 2, none⟩ = some (.slice a2 g.shown.length c2) := by simp [go_sem, x2]
  replace y0 : (w1.setCell ⟨w.heap.size + 1 + 1, 0, none⟩ (.slice (some ⟨w.heap.size + 3, 0, none⟩) g.ins.length g.ins.length)).cell? ⟨w.heap.size + 1, 0, none⟩ = some (.slice none 0 0) := by simp [go_sem, y0]
  replace y1 : (w1.setCell ⟨w.heap.size + 1 + 1, 0, none⟩ (.slice (some ⟨w.heap.size + 3, 0, none⟩) g.ins.length g.ins.length)).cell? ⟨w.heap.size + 1, 1, none⟩ = some (.slice none 0 0) := by simp [go_sem, y1]
  replace y2 : (w1.setCell ⟨w.heap.size + 1 + 1, 0, none⟩ (.slice (some ⟨w.heap.size + 3, 0, none⟩) g.ins.length g.ins.length)).cell? ⟨w.heap.size + 1, 2, none⟩ = some (.slice none 0 0) := by simp [go_sem, y2]
  replace z0 : (w1.setCell ⟨w.heap.size + 1 + 1, 0, none⟩ (.slice (some ⟨w.heap.size + 3, 0, none⟩) g.ins.length g.ins.length)).cell? ⟨w.heap.size + 1 + 1, 0, none⟩ = some (.slice (some ⟨w.heap.size + 3, 0, none⟩) g.ins.length g.ins.length) := by simp [go_sem, z0]
  replace z1 : (w1.setCell ⟨w.heap.size + 1 + 1, 0, none⟩ (.slice (some ⟨w.heap.size + 3, 0, none⟩) g.ins.length g.ins.length)).cell? ⟨w.heap.size + 1 + 1, 1, none⟩ = some (.slice none 0 0) := by simp [go_sem, z1]
  replace z2 : (w1.setCell ⟨w.heap.size + 1 + 1, 0, none⟩ (.slice (some ⟨w.heap.size + 3, 0, none⟩) g.ins.length g.ins.length)).cell? ⟨w.heap.size + 1 + 1, 2, none⟩ = some (.slice none 0 0) := by simp [go_sem, z2]
  replace fy0 : (w1.setCell ⟨w.heap.size + 1 + 1, 0, none⟩ (.slice (some ⟨w.heap.size + 3, 0, none⟩) g.ins.length g.ins.length)).frozen? ⟨w.heap.size + 1, 0, none⟩ = false := by simp [go_sem, fy0]
  replace fy1 : (w1.setCell ⟨w.heap.size + 1 + 1, 0, none⟩ (.slice (some ⟨w.heap.size + 3, 0, none⟩) g.ins.length g.ins.length)).frozen? ⟨w.heap.size + 1, 1, none⟩ = false := by simp [go_sem, fy1]
  replace fy2 : (w1.setCell ⟨w.heap.size + 1 + 1, 0, none⟩ (.slice (some ⟨w.heap.size + 3, 0, none⟩) g.ins.length g.ins.length)).frozen? ⟨w.heap.size + 1, 2, none⟩ = false := by simp [go_sem, fy2]
  replace fz0 : (w1.setCell ⟨w.heap.size + 1 + 1, 0, none⟩ (.slice (some ⟨w.heap.size + 3, 0, none⟩) g.ins.length g.ins.length)).frozen? ⟨w.heap.size + 1 + 1, 0, none⟩ = false := by simp [go_sem, fz0]
  replace fz1 : (w1.setCell ⟨w.heap.size + 1 + 1, 0, none⟩ (.slice (some ⟨w.heap.size + 3, 0, none⟩) g.ins.length g.ins.length)).frozen? ⟨w.heap.size + 1 + 1, 1, none⟩ = false := by simp [go_sem, fz1]
  replace fz2 : (w1.setCell ⟨w.heap.size + 1 + 1, 0, none⟩ (.slice (some ⟨w.heap.size + 3, 0, none⟩) g.ins.length g.ins.length)).frozen? ⟨w.heap.size + 1 + 1, 2, none⟩ = false := by simp [go_sem, fz2]
  replace B1 : Below w.heap.size w (w1.setCell ⟨w.heap.size + 1 + 1, 0, none⟩ (.slice (some ⟨w.heap.size + 3, 0, none⟩) g.ins.length g.ins.length)) := B1.setCell (by simp only; omega) _
  replace hp1 : PartS (w1.setCell ⟨w.heap.size + 1 + 1, 0, none⟩ (.slice (some ⟨w.heap.size + 3, 0, none⟩) g.ins.length g.ins.length)) (w.heap.size + 3) g.ins g.ins.length := hp1.setOther (by omega) _ _
  generalize w1.setCell ⟨w.heap.size + 1 + 1, 0, none⟩ (.slice (some ⟨w.heap.size + 3, 0, none⟩) g.ins.length g.ins.length) = W1 at *
  replace hs0 : w1.heap.size ≤ W1.heap.size := by omega
  refine (toItemSS_any a1 c1 g.wins _ hl1 hw (r1.below B1)).mono ?_
  rintro e w2 ⟨rfl, hp2, b2⟩
  have B2 : Below w.heap.size w w2 := B1.trans (b2.mono B1.size)
  have g2 := hp2.lt
  have z2' := b2.size
  replace hp1 := hp1.below (by omega) b2
  replace x2 := cell_on b2 (by omega) x2
  replace y0 := cell_on b2 (by omega) y0
  replace y1 := cell_on b2 (by omega) y1
  replace y2 := cell_on b2 (by omega) y2
  replace z0 := cell_on b2 (by omega) z0
  replace z1 := cell_on b2 (by omega) z1
  replace z2 := cell_on b2 (by omega) z2
  replace fy0 := (b2.frozen (p := ⟨w.heap.size + 1, 0, none⟩) (by simp only; omega)).trans fy0
  replace fy1 := (b2.frozen (p := ⟨w.heap.size + 1, 1, none⟩) (by simp only; omega)).trans fy1
  replace fy2 := (b2.frozen (p := ⟨w.heap.size + 1, 2, none⟩) (by simp only; omega)).trans fy2
  replace fz0 := (b2.frozen (p := ⟨w.heap.size + 1 + 1, 0, none⟩) (by simp only; omega)).trans fz0
  replace fz1 := (b2.frozen (p := ⟨w.heap.size + 1 + 1, 1, none⟩) (by simp only; omega)).trans fz1
  replace fz2 := (b2.frozen (p := ⟨w.heap.size + 1 + 1, 2, none⟩) (by simp only; omega)).trans fz2
  clear b2 B1 x1
  generalize W1.heap.size = lo at *
  go_wp2_with fail
  have hs1 : (w2.setCell ⟨w.heap.size + 1 + 1, 1, none⟩ (.slice (some ⟨lo, 0, none⟩) g.wins.length g.wins.length)).heap.size = w2.heap.size := by simp
  replace x2 : (w2.setCell ⟨w.heap.size + 1 + 1, 1, none⟩ (.slice (some ⟨lo, 0, none⟩) g.wins.length g.wins.length)).cell? ⟨w.heap.size, 2, none⟩ = some (.slice a2 g.shown.length c2) := by simp [go_sem, x2]
  replace y0 : (w2.setCell ⟨w.heap.size + 1 + 1, 1, none⟩ (.slice (some ⟨lo, 0, none⟩) g.wins.length g.wins.length)).cell? ⟨w.heap.size + 1, 0, none⟩ = some (.slice none 0 0) := by simp [go_sem, y0]
  replace y1 : (w2.setCell ⟨w.heap.size + 1 + 1, 1, none⟩ (.slice (some ⟨lo, 0, none⟩) g.wins.length g.wins.length)).cell? ⟨w.heap.size + 1, 1, none⟩ = some (.slice none 0 0) := by simp [go_sem, y1]
  replace y2 : (w2.setCell ⟨w.heap.size + 1 + 1, 1, none⟩ (.slice (some ⟨lo, 0, none⟩) g.wins.length g.wins.length)).cell? ⟨w.heap.size + 1, 2, none⟩ = some (.slice none 0 0) := by simp [go_sem, y2]
  replace z0 : (w2.setCell ⟨w.heap.size + 1 + 1, 1, none⟩ (.slice (some ⟨lo, 0, none⟩) g.wins.length g.wins.length)).cell? ⟨w.heap.size + 1 + 1, 0, none⟩ = some (.slice (some ⟨w.heap.size + 3, 0, none⟩) g.ins.length g.ins.length) := by simp [go_sem, z0]
  replace z1 : (w2.setCell ⟨w.heap.size + 1 + 1, 1, none⟩ (.slice (some ⟨lo, 0, none⟩) g.wins.length g.wins.length)).cell? ⟨w.heap.size + 1 + 1, 1, none⟩ = some (.slice (some ⟨lo, 0, none⟩) g.wins.length g.wins.length) := by simp [go_sem, z1]
  replace z2 : (w2.setCell ⟨w.heap.size + 1 + 1, 1, none⟩ (.slice (some ⟨lo, 0, none⟩) g.wins.length g.wins.length)).cell? ⟨w.heap.size + 1 + 1, 2, none⟩ = some (.slice none 0 0) := by simp [go_sem, z2]
  replace fy0 : (w2.setCell ⟨w.heap.size + 1 + 1, 1, none⟩ (.slice (some ⟨lo, 0, none⟩) g.wins.length g.wins.length)).frozen? ⟨w.heap.size + 1, 0, none⟩ = false := by simp [go_sem, fy0]
  replace fy1 : (w2.setCell ⟨w.heap.size + 1 + 1, 1, none⟩ (.slice (some ⟨lo, 0, none⟩) g.wins.length g.wins.length)).frozen? ⟨w.heap.size + 1, 1, none⟩ = false := by simp [go_sem, fy1]
  replace fy2 : (w2.setCell ⟨w.heap.size + 1 + 1, 1, none⟩ (.slice (some ⟨lo, 0, none⟩) g.wins.length g.wins.length)).frozen? ⟨w.heap.size + 1, 2, none⟩ = false := by simp [go_sem, fy2]
  replace fz0 : (w2.setCell ⟨w.heap.size + 1 + 1, 1, none⟩ (.slice (some ⟨lo, 0, none⟩) g.wins.length g.wins.length)).frozen? ⟨w.heap.size + 1 + 1, 0, none⟩ = false := by simp [go_sem, fz0]
  replace fz1 : (w2.setCell ⟨w.heap.size + 1 + 1, 1, none⟩ (.slice (some ⟨lo, 0, none⟩) g.wins.length g.wins.length)).frozen? ⟨w.heap.size + 1 + 1, 1, none⟩ = false := by simp [go_sem, fz1]
  replace fz2 : (w2.setCell ⟨w.heap.size + 1 + 1, 1, none⟩ (.slice (some ⟨lo, 0, none⟩) g.wins.length g.wins.length)).frozen? ⟨w.heap.size + 1 + 1, 2, none⟩ = false := by simp [go_sem, fz2]
  replace B2 : Below w.heap.size w (w2.setCell ⟨w.heap.size + 1 + 1, 1, none⟩ (.slice (some ⟨lo, 0, none⟩) g.wins.length g.wins.length)) := B2.setCell (by simp only; omega) _
  replace hp1 : PartS (w2.setCell ⟨w.heap.size + 1 + 1, 1, none⟩ (.slice (some ⟨lo, 0, none⟩) g.wins.length g.wins.length)) (w.heap.size + 3) g.ins g.ins.length := hp1.setOther (by omega) _ _
  replace hp2 : PartW (w2.setCell ⟨w.heap.size + 1 + 1, 1, none⟩ (.slice (some ⟨lo, 0, none⟩) g.wins.length g.wins.length)) (lo + 1) w2.heap.size lo g.wins g.wins.length := hp2.setBelow (by omega) (by omega) _ _
  generalize w2.setCell ⟨w.heap.size + 1 + 1, 1, none⟩ (.slice (some ⟨lo, 0, none⟩) g.wins.length g.wins.length) = W2 at *
  replace hs1 : w2.heap.size ≤ W2.heap.size := by omega
  refine (toMarkS_any a2 c2 g.shown _ hl2 (r2.below B2)).mono ?_
  rintro e w3 ⟨rfl, hp3, b3⟩
  have B3 : Below w.heap.size w w3 := B2.trans (b3.mono B2.size)
  have g3 := hp3.lt
  have z3' := b3.size
  replace hp1 := hp1.below (by omega) b3
  replace hp2 := hp2.below b3
  replace y0 := cell_on b3 (by omega) y0
  replace y1 := cell_on b3 (by omega) y1
  replace y2 := cell_on b3 (by omega) y2
  replace z0 := cell_on b3 (by omega) z0
  replace z1 := cell_on b3 (by omega) z1
  replace z2 := cell_on b3 (by omega) z2
  replace fy0 := (b3.frozen (p := ⟨w.heap.size + 1, 0, none⟩) (by simp only; omega)).trans fy0
  replace fy1 := (b3.frozen (p := ⟨w.heap.size + 1, 1, none⟩) (by simp only; omega)).trans fy1
  replace fy2 := (b3.frozen (p := ⟨w.heap.size + 1, 2, none⟩) (by simp only; omega)).trans fy2
  replace fz0 := (b3.frozen (p := ⟨w.heap.size + 1 + 1, 0, none⟩) (by simp only; omega)).trans fz0
  replace fz1 := (b3.frozen (p := ⟨w.heap.size + 1 + 1, 1, none⟩) (by simp only; omega)).trans fz1
  replace fz2 := (b3.frozen (p := ⟨w.heap.size + 1 + 1, 2, none⟩) (by simp only; omega)).trans fz2
  clear b3 B2 x2
  generalize W2.heap.size = hi at *
  go_wp2_with fail
  have e0 : ((((w3.setCell ⟨w.heap.size + 1 + 1, 2, none⟩ (.slice (some ⟨hi, 0, none⟩) g.shown.length g.shown.length)).setCell ⟨w.heap.size + 1, 0, none⟩ (.slice (some ⟨w.heap.size + 3, 0, none⟩) g.ins.length g.ins.length)).setCell ⟨w.heap.size + 1, 1, none⟩ (.slice (some ⟨lo, 0, none⟩) g.wins.length g.wins.length)).setCell ⟨w.heap.size + 1, 2, none⟩ (.slice (some ⟨hi, 0, none⟩) g.shown.length g.shown.length)).cell? ⟨w.heap.size + 1, 0, none⟩ = some (.slice (some ⟨w.heap.size + 3, 0, none⟩) g.ins.length g.ins.length) := by simp [go_sem, y0]
  have e1 : ((((w3.setCell ⟨w.heap.size + 1 + 1, 2, none⟩ (.slice (some ⟨hi, 0, none⟩) g.shown.length g.shown.length)).setCell ⟨w.heap.size + 1, 0, none⟩ (.slice (some ⟨w.heap.size + 3, 0, none⟩) g.ins.length g.ins.length)).setCell ⟨w.heap.size + 1, 1, none⟩ (.slice (some ⟨lo, 0, none⟩) g.wins.length g.wins.length)).setCell ⟨w.heap.size + 1, 2, none⟩ (.slice (some ⟨hi, 0, none⟩) g.shown.length g.shown.length)).cell? ⟨w.heap.size + 1, 1, none⟩ = some (.slice (some ⟨lo, 0, none⟩) g.wins.length g.wins.length) := by simp [go_sem, y1]
  have e2 : ((((w3.setCell ⟨w.heap.size + 1 + 1, 2, none⟩ (.slice (some ⟨hi, 0, none⟩) g.shown.length g.shown.length)).setCell ⟨w.heap.size + 1, 0, none⟩ (.slice (some ⟨w.heap.size + 3, 0, none⟩) g.ins.length g.ins.length)).setCell ⟨w.heap.size + 1, 1, none⟩ (.slice (some ⟨lo, 0, none⟩) g.wins.length g.wins.length)).setCell ⟨w.heap.size + 1, 2, none⟩ (.slice (some ⟨hi, 0, none⟩) g.shown.length g.shown.length)).cell? ⟨w.heap.size + 1, 2, none⟩ = some (.slice (some ⟨hi, 0, none⟩) g.shown.length g.shown.length) := by simp [go_sem, y2]
  exact bodyPost_ret (v := .agg #[.slice (some ⟨w.heap.size + 3, 0, none⟩) g.ins.length g.ins.length, .slice (some ⟨lo, 0, none⟩) g.wins.length g.wins.length, .slice (some ⟨hi, 0, none⟩) g.shown.length g.shown.length]) (by simp [results, Tryz.results9, go_sem, e0, e1, e2]) rfl
    ⟨⟨w.heap.size + 3, lo, hi, lo + 1, w2.heap.size, rfl, by omega, by omega, by omega, by omega, (((hp1.setOther (by omega) _ _).setOther (by omega) _ _).setOther (by omega) _ _).setOther (by omega) _ _, (((hp2.setBelow (by omega) (by omega) _ _).setBelow (by omega) (by omega) _ _).setBelow (by omega) (by omega) _ _).setBelow (by omega) (by omega) _ _, (((hp3.setOther (by omega) _ _).setOther (by omega) _ _).setOther (by omega) _ _).setOther (by omega) _ _⟩,
      (((B3.setCell (by simp only; omega) _).setCell (by simp only; omega) _).setCell (by simp only; omega) _).setCell (by simp only; omega) _⟩

end Go.Proofs.YtpfhegengmlkmacGreatDoor
/- Walks: insOk, l4Ins: which inputs may be. -/
namespace Go.Proofs.YtpfhegengmlkmacGreatDoor
open Go.RowKit Go.BigFrame

/-- From 1 to 6 names, no two alike. -/
def InsP (l : List ByteArray) : Prop := 1 ≤ l.length ∧ l.length ≤ 6 ∧ ∀ i, (h : i < l.length) → NameP l[i] ∧ ∀ k, (hk : k < i) → l[k] ≠ l[i]
/-- The first k of them are so. -/
def InsTo (l : List ByteArray) (n : Nat) : Prop := ∀ i, (h : i < l.length) → i < n → NameP l[i] ∧ ∀ k, (hk : k < i) → l[k] ≠ l[i]
theorem insTo_step {l : List ByteArray} {n : Nat} (h : InsTo l n) (hn : n < l.length) (h1 : NameP l[n]) (h2 : ∀ k, (hk : k < n) → l[k] ≠ l[n]) : InsTo l (n + 1) := fun i hi hlt => by
  by_cases e : i = n
  · subst e; exact ⟨h1, h2⟩
  · exact h i hi (by omega)
theorem RowS.take {w : World} {b o : Nat} {l : List ByteArray} (h : RowS w (some ⟨b, o, none⟩) l) (k : Nat) : RowS w (some ⟨b, o, none⟩) (l.take k) := fun j hj => by
  rw [List.length_take] at hj
  obtain ⟨b', o', e, h1, h2⟩ := h j (by omega)
  exact ⟨b', o', e, h1, by rw [List.getElem_take]; exact h2⟩

set_option maxHeartbeats 800000 in
theorem insOk_any (a : Option Addr) (cap : Nat) (l : List ByteArray) (w : World) (hl : l.length ≤ 1048576) (hc : l.length ≤ cap) (hc2 : cap ≤ maxLen) (hr : RowS w a l) (hs : ∀ j, (h : j < l.length) → l[j].size ≤ maxLen) :
    Calls Tryz.prog 105 #[.slice a l.length cap] w fun e w' => IsB (InsP l) e ∧ w' = w := by
  unfold maxLen at hc2
  by_cases h1 : l.length < 1
  · go_enter Tryz.func105, Tryz.ntmps105
    go_wp2_with fail
    go_ret
    exact ⟨isB_false (fun h => by have := h.1; omega), rfl⟩
  by_cases h6 : 6 < l.length
  · go_enter Tryz.func105, Tryz.ntmps105
    go_wp2_with fail
    go_ret
    exact ⟨isB_false (fun h => by have := h.2.1; omega), rfl⟩
  go_enter Tryz.func105, Tryz.ntmps105
  go_wp2_with fail
  go_loopw [15] (fun i wr => ∃ k : Nat, k ≤ l.length ∧ i = .int .i64 k ∧ Hid (InsTo l k) ∧ wr = w) (fun i _ => l.length - (intOf i).toNat)
  case atStart => exact ⟨0, Nat.zero_le _, rfl, fun _ _ h => absurd h (Nat.not_lt_zero _), rfl⟩
  case round =>
    obtain ⟨k, hk, rfl, HI, rfl⟩ := hrel
    by_cases hlt : k < l.length
    · obtain ⟨b, o, rfl, hblt, c0⟩ := hr k hlt
      have k0 : (0 : Int) ≤ (k : Int) := by omega
      have k1 : (k : Int) < (l.length : Int) := by omega
      have HS := hs k hlt
      have HT : Hid (∀ u : World, u = wr → Calls Tryz.prog 147 #[.slice (some ⟨b, o, none⟩) k cap, .string l[k]] u fun e w' => e = .returned (.bool (amongB (l.take k) l[k])) ∧ w' = u) := fun u hu => by
        have h := contains_any (some ⟨b, o, none⟩) cap (l.take k) l[k] u (by rw [List.length_take]; omega) (hu ▸ hr.take k)
        rwa [List.length_take, Nat.min_eq_left (by omega)] at h
      go_wp2_with fail
      refine (nameOk_any l[k] _ HS).mono ?_
      rintro e w1 ⟨⟨r, rfl, hr1⟩, rfl⟩
      have HR : Hid (r = true ↔ NameP l[k]) := hr1
      clear hr1
      cases r with
      | false =>
        have HN : Hid (¬ InsP l) := fun h => by have h3 := (h.2.2 k hlt).1; have := HR.out.2 h3; simp at this
        go_wp2_with fail
        go_ret
        exact ⟨isB_false HN.out, rfl⟩
      | true =>
        have HP : Hid (NameP l[k]) := HR.out.1 rfl
        go_wp2_with fail
        refine (HT.out _ rfl).mono ?_
        rintro e w1 ⟨rfl, rfl⟩
        cases hq : amongB (l.take k) l[k] with
        | false =>
          have HST : Hid (InsTo l (k + 1)) := insTo_step HI.out hlt HP.out (fun j hj he => by
            have := (among_iff (names := l.take k) (s := l[k])).2 ⟨j, by rw [List.length_take]; omega, by rw [List.getElem_take]; exact he⟩
            rw [hq] at this
            cases this)
          go_wp2_with fail
          exact ⟨⟨k + 1, by omega, by go_num, HST, by trivial⟩, by simp [intOf]; omega⟩
        | true =>
          have HN : Hid (¬ InsP l) := fun h => by
            obtain ⟨j, hj, he⟩ := among_iff.1 hq
            rw [List.length_take] at hj
            rw [List.getElem_take] at he
            exact (h.2.2 k hlt).2 j (by omega) he
          go_wp2_with fail
          go_ret
          exact ⟨isB_false HN.out, rfl⟩
    · have HF : Hid (InsP l) := ⟨by omega, by omega, fun i hi => HI.out i hi (by omega)⟩
      go_wp2_with fail
      go_ret
      exact ⟨isB_true HF.out, rfl⟩

end Go.Proofs.YtpfhegengmlkmacGreatDoor
/- Walks: l4Ins. -/
namespace Go.Proofs.YtpfhegengmlkmacGreatDoor
open Go.RowKit Go.BigFrame

set_option maxHeartbeats 800000 in
theorem l4Ins_any (a : Option Addr) (cap : Nat) (l : List ByteArray) (w : World) (hl : l.length ≤ 1048576) (hr : RowS w a l) (hs : ∀ j, (h : j < l.length) → l[j].size ≤ maxLen) :
    Calls Tryz.prog 77 #[.slice a l.length cap] w fun e w' => IsB (InsP l) e ∧ Below w.heap.size w w' := by
  by_cases h1 : l.length < 1
  · go_enter Tryz.func77, Tryz.ntmps77
    go_wp2_with fail
    go_ret
    exact ⟨isB_false (fun h => by have := h.1; omega), Below.refl _ _⟩
  by_cases h6 : 6 < l.length
  · go_enter Tryz.func77, Tryz.ntmps77
    go_wp2_with fail
    go_ret
    exact ⟨isB_false (fun h => by have := h.2.1; omega), Below.refl _ _⟩
  go_enter Tryz.func77, Tryz.ntmps77
  go_wp2_with fail
  go_loopw [3] (fun i wr => ∃ k : Nat, k ≤ l.length ∧ i = .int .i64 k ∧ Hid (InsTo l k) ∧ Below w.heap.size w wr) (fun i _ => l.length - (intOf i).toNat)
  case atStart => exact ⟨0, Nat.zero_le _, rfl, fun _ _ h => absurd h (Nat.not_lt_zero _), Below.refl _ _⟩
  case round =>
    obtain ⟨k, hk, rfl, HI, hbl⟩ := hrel
    by_cases hlt : k < l.length
    · obtain ⟨b, o, rfl, hblt, c0⟩ := hr.below hbl k hlt
      have k0 : (0 : Int) ≤ (k : Int) := by omega
      have k1 : (k : Int) < (l.length : Int) := by omega
      have HS := hs k hlt
      go_wp2_with fail
      refine (l1Name_any l[k] _ HS).mono ?_
      rintro e w1 ⟨⟨r, rfl, hr1⟩, rfl⟩
      have HR : Hid (r = true ↔ NameP l[k]) := hr1
      clear hr1
      cases r with
      | false =>
        have HN : Hid (¬ InsP l) := fun h => by have h3 := (h.2.2 k hlt).1; have := HR.out.2 h3; simp at this
        go_wp2_with fail
        go_ret
        exact ⟨isB_false HN.out, hbl⟩
      | true =>
        have HP : Hid (NameP l[k]) := HR.out.1 rfl
        clear HR
        go_wp2_with fail
        go_loopw [4] (fun i2 wr2 => ∃ j : Nat, j ≤ k ∧ i2 = .int .i64 j ∧ Hid (∀ q, (hq : q < j) → (hl : q < l.length) → l[q] ≠ l[k]) ∧ Below w.heap.size w wr2) (fun i2 _ => k - (intOf i2).toNat)
        case atStart => exact ⟨0, Nat.zero_le _, rfl, fun _ h => absurd h (Nat.not_lt_zero _), hbl⟩
        case round =>
          obtain ⟨j, hj, rfl, HJ, hbl2⟩ := hrel
          by_cases hjlt : j < k
          · have hjl : j < l.length := by omega
            obtain ⟨b1, o1, e1, hb1, c1⟩ := hr.below hbl2 j hjl
            obtain ⟨b2, o2, e2, hb2, c2⟩ := hr.below hbl2 k hlt
            cases e1
            cases e2
            have j0 : (0 : Int) ≤ (j : Int) := by omega
            have j1 : (j : Int) < (l.length : Int) := by omega
            by_cases he : l[j] = l[k]
            · have hb' : (l[j].toList == l[k].toList) = true := toList_beq.2 he
              have HN : Hid (¬ InsP l) := fun h => (h.2.2 k hlt).2 j hjlt he
              go_wp2_with fail
              go_quiet (fail)
              go_wp2_with fail
              go_ret
              exact ⟨isB_false HN.out, below_drewN hbl2 _⟩
            · have hb' : (l[j].toList == l[k].toList) = false := toList_bne.2 he
              have HJ2 : Hid (∀ q, (hq : q < j + 1) → (hl : q < l.length) → l[q] ≠ l[k]) := fun q hq hl => by
                by_cases e : q = j
                · subst e; exact he
                · exact HJ.out q (by omega) hl
              go_wp2_with fail
              go_quiet (fail)
              go_wp2_with fail
              exact ⟨⟨j + 1, by omega, by go_num, HJ2, below_drewN hbl2 _⟩, by simp [intOf]; omega⟩
          · have HST : Hid (InsTo l (k + 1)) := insTo_step HI.out hlt HP.out (fun q hq => HJ.out q (by omega) (by omega))
            go_wp2_with fail
            exact ⟨⟨k + 1, by omega, by go_num, HST, hbl2⟩, by simp [intOf]; omega⟩
    · have HF : Hid (InsP l) := ⟨by omega, by omega, fun i hi => HI.out i hi (by omega)⟩
      go_wp2_with fail
      go_ret
      exact ⟨isB_true HF.out, hbl⟩

end Go.Proofs.YtpfhegengmlkmacGreatDoor
/- The walk of impl.WindowOk and of the law FnExactWindowOk. -/
namespace Go.Proofs.YtpfhegengmlkmacGreatDoor
open Go.RowKit Go.BigFrame
set_option maxRecDepth 100000

theorem fit_small {l : List ItemL} (h : SmallI 1048576 l) : l.length ≤ 1048576 ∧ ∀ j, (hj : j < l.length) → l[j].2.length ≤ 1048576 := ⟨by have := h.1; omega, fun j hj => by have := (h.2 j hj).1; omega⟩

set_option maxHeartbeats 800000 in
theorem implWinOk_any (a : Option Addr) (cap : Nat) (l : List ItemL) (w : World) (hf : FitI l) (hr : RowI w a l) :
    Calls Tryz.prog 125 #[.slice a l.length cap] w fun e w' => IsB (WinP l) e ∧ Below w.heap.size w w' := by
  go_enter Tryz.func125, Tryz.ntmps125
  go_wp2_with fail
  refine (readWindow_any a cap l _ hf hr).mono ?_
  rintro e w1 ⟨hE, b1⟩
  rcases hE with ⟨v, rfl, hp, hv⟩ | ⟨v, rfl, hp, hv⟩
  · have HP : Hid (WinP l) := hp
    clear hp
    obtain ⟨x0, x1, x2, x3, a0, a1, a2, a3, n0, n1, n2, n3, c0, c1, c2, c3, rfl, _⟩ := hv.laid
    go_wp2_with fail
    go_ret
    exact ⟨isB_true HP.out, b1.alloc b1.size _⟩
  · have HP : Hid (¬ WinP l) := hp
    clear hp
    obtain ⟨x0, x1, x2, x3, a0, a1, a2, a3, n0, n1, n2, n3, c0, c1, c2, c3, rfl, _⟩ := hv.laid
    go_wp2_with fail
    go_ret
    exact ⟨isB_false HP.out, b1.alloc b1.size _⟩

end Go.Proofs.YtpfhegengmlkmacGreatDoor
/- Walks: spec.GatherOk, impl.GatherOk. -/
namespace Go.Proofs.YtpfhegengmlkmacGreatDoor
open Go.RowKit Go.BigFrame

/-- A gather that may be. -/
structure GatP (g : GatL) : Prop where
  ins : InsP g.ins
  len : g.wins.length = g.ins.length
  wins : OkW g.wins
  shown : StampP g.shown

set_option maxHeartbeats 800000 in
theorem specGOk_any (a0 a1 a2 : Option Addr) (c0 c1 c2 : Nat) (g : GatL) (w : World) (hf : FitG g) (hi : g.ins.length ≤ 1048576) (r0 : RowS w a0 g.ins) (r1 : RowW w a1 g.wins) (r2 : Row w a2 g.shown) :
    Calls Tryz.prog 41 #[.agg #[.slice a0 g.ins.length c0, .slice a1 g.wins.length c1, .slice a2 g.shown.length c2]] w fun e w' => IsB (GatP g) e ∧ Below w.heap.size w w' := by
  have hl := hf.wins.1
  unfold maxLen at hl
  have hb0 : Below w.heap.size w (w.alloc (.cells #[.slice a0 g.ins.length c0, .slice a1 g.wins.length c1, .slice a2 g.shown.length c2] 36)) := (Below.refl _ _).alloc (Nat.le_refl _) _
  have hlt := box_lt w (.cells #[.slice a0 g.ins.length c0, .slice a1 g.wins.length c1, .slice a2 g.shown.length c2] 36)
  have d0 : (w.alloc (.cells #[.slice a0 g.ins.length c0, .slice a1 g.wins.length c1, .slice a2 g.shown.length c2] 36)).cell? ⟨w.heap.size, 0, none⟩ = some (.slice a0 g.ins.length c0) := by simp [go_sem]
  have d1 : (w.alloc (.cells #[.slice a0 g.ins.length c0, .slice a1 g.wins.length c1, .slice a2 g.shown.length c2] 36)).cell? ⟨w.heap.size, 1, none⟩ = some (.slice a1 g.wins.length c1) := by simp [go_sem]
  have d2 : (w.alloc (.cells #[.slice a0 g.ins.length c0, .slice a1 g.wins.length c1, .slice a2 g.shown.length c2] 36)).cell? ⟨w.heap.size, 2, none⟩ = some (.slice a2 g.shown.length c2) := by simp [go_sem]
  go_enter Tryz.func41, Tryz.ntmps41
  go_wp2_with fail
  generalize w.alloc (.cells #[.slice a0 g.ins.length c0, .slice a1 g.wins.length c1, .slice a2 g.shown.length c2] 36) = W0 at *
  refine (l4Ins_any a0 c0 g.ins _ hi (r0.below hb0) hf.ins.2).mono ?_
  rintro e w1 ⟨⟨r, rfl, hr⟩, b1⟩
  have HR : Hid (r = true ↔ InsP g.ins) := hr
  clear hr
  have B1 : Below w.heap.size w w1 := hb0.trans (b1.mono hb0.size)
  replace d0 := cell_on b1 (by omega) d0
  replace d1 := cell_on b1 (by omega) d1
  replace d2 := cell_on b1 (by omega) d2
  have z1 := b1.size
  clear b1
  cases r with
  | false =>
    have HN : Hid (¬ GatP g) := fun h => by have := HR.out.2 h.ins; simp at this
    go_wp2_with fail
    go_ret
    exact ⟨isB_false HN.out, B1⟩
  | true =>
    have HP : Hid (InsP g.ins) := HR.out.1 rfl
    clear HR
    by_cases hlen : g.wins.length = g.ins.length
    · have HL : Hid (g.wins.length = g.ins.length) := hlen
      have hlen' : ((g.wins.length : Int) == (g.ins.length : Int)) = true := by rw [beq_iff_eq]; omega
      clear hlen
      go_wp2_with fail
      refine (l3Ok_any a1 c1 g.wins _ hf.wins (r1.below B1)).mono ?_
      rintro e w2 ⟨⟨r, rfl, hr⟩, b2⟩
      have HR : Hid (r = true ↔ OkW g.wins) := hr
      clear hr
      have B2 : Below w.heap.size w w2 := B1.trans (b2.mono B1.size)
      replace d2 := cell_on b2 (by omega) d2
      have z2 := b2.size
      clear b2
      cases r with
      | false =>
        have HN : Hid (¬ GatP g) := fun h => by have := HR.out.2 h.wins; simp at this
        go_wp2_with fail
        go_ret
        exact ⟨isB_false HN.out, B2⟩
      | true =>
        have HW : Hid (OkW g.wins) := HR.out.1 rfl
        clear HR
        go_wp2_with fail
        refine (specStampOk_any a2 c2 g.shown _ hf.shown.1 (r2.below B2) hf.shown.2).mono ?_
        rintro e w3 ⟨⟨r, rfl, hr⟩, n, rfl⟩
        have HR : Hid (r = true ↔ GatP g) := hr.trans ⟨fun h => ⟨HP.out, HL.out, HW.out, h⟩, fun h => h.shown⟩
        clear hr
        go_wp2_with fail
        go_ret
        exact ⟨⟨r, rfl, HR.out⟩, below_drewN B2 _⟩
    · have hlen' : ((g.wins.length : Int) == (g.ins.length : Int)) = false := by rw [beq_eq_false_iff_ne]; omega
      have HN : Hid (¬ GatP g) := fun h => hlen h.len
      go_wp2_with fail
      go_ret
      exact ⟨isB_false HN.out, B1⟩

set_option maxHeartbeats 800000 in
theorem implGOk_any (a0 a1 a2 : Option Addr) (c0 c1 c2 : Nat) (g : GatL) (w : World) (hf : FitG g) (hi : g.ins.length ≤ 1048576) (hc : g.ins.length ≤ c0) (hc2 : c0 ≤ maxLen) (r0 : RowS w a0 g.ins) (r1 : RowW w a1 g.wins) (r2 : Row w a2 g.shown) :
    Calls Tryz.prog 89 #[.agg #[.slice a0 g.ins.length c0, .slice a1 g.wins.length c1, .slice a2 g.shown.length c2]] w fun e w' => IsB (GatP g) e ∧ Below w.heap.size w w' := by
  have hl := hf.wins.1
  unfold maxLen at hl
  have hb0 : Below w.heap.size w (w.alloc (.cells #[.slice a0 g.ins.length c0, .slice a1 g.wins.length c1, .slice a2 g.shown.length c2] 36)) := (Below.refl _ _).alloc (Nat.le_refl _) _
  have hlt := box_lt w (.cells #[.slice a0 g.ins.length c0, .slice a1 g.wins.length c1, .slice a2 g.shown.length c2] 36)
  have d0 : (w.alloc (.cells #[.slice a0 g.ins.length c0, .slice a1 g.wins.length c1, .slice a2 g.shown.length c2] 36)).cell? ⟨w.heap.size, 0, none⟩ = some (.slice a0 g.ins.length c0) := by simp [go_sem]
  have d1 : (w.alloc (.cells #[.slice a0 g.ins.length c0, .slice a1 g.wins.length c1, .slice a2 g.shown.length c2] 36)).cell? ⟨w.heap.size, 1, none⟩ = some (.slice a1 g.wins.length c1) := by simp [go_sem]
  have d2 : (w.alloc (.cells #[.slice a0 g.ins.length c0, .slice a1 g.wins.length c1, .slice a2 g.shown.length c2] 36)).cell? ⟨w.heap.size, 2, none⟩ = some (.slice a2 g.shown.length c2) := by simp [go_sem]
  go_enter Tryz.func89, Tryz.ntmps89
  go_wp2_with fail
  generalize w.alloc (.cells #[.slice a0 g.ins.length c0, .slice a1 g.wins.length c1, .slice a2 g.shown.length c2] 36) = W0 at *
  refine (insOk_any a0 c0 g.ins _ hi hc hc2 (r0.below hb0) hf.ins.2).mono ?_
  rintro e w1 ⟨⟨r, rfl, hr⟩, rfl⟩
  have HR : Hid (r = true ↔ InsP g.ins) := hr
  clear hr
  cases r with
  | false =>
    have HN : Hid (¬ GatP g) := fun h => by have := HR.out.2 h.ins; simp at this
    go_wp2_with fail
    go_ret
    exact ⟨isB_false HN.out, hb0⟩
  | true =>
    have HP : Hid (InsP g.ins) := HR.out.1 rfl
    clear HR
    by_cases hlen : g.wins.length = g.ins.length
    · have HL : Hid (g.wins.length = g.ins.length) := hlen
      have hlen' : ((g.wins.length : Int) != (g.ins.length : Int)) = false := by rw [bne_eq_false_iff_eq]; omega
      clear hlen
      go_wp2_with fail
      go_loopw [21] (fun i wr => ∃ k : Nat, k ≤ g.wins.length ∧ i = .int .i64 k ∧ Hid (∀ j, (h : j < g.wins.length) → j < k → WinP g.wins[j]) ∧ Below w1.heap.size w1 wr) (fun i _ => g.wins.length - (intOf i).toNat)
      case atStart => exact ⟨0, Nat.zero_le _, rfl, fun _ _ h => absurd h (Nat.not_lt_zero _), Below.refl _ _⟩
      case round =>
        obtain ⟨k, hk, rfl, HI, hbl⟩ := hrel
        have B1 : Below w.heap.size w wr := hb0.trans (hbl.mono hb0.size)
        by_cases hk2 : k < g.wins.length
        · obtain ⟨b1, o1, rfl, g1, s1, t1, e1, _, q1⟩ := r1.below B1 k hk2
          have k0 : (0 : Int) ≤ (k : Int) := by omega
          have k1 : (k : Int) < (g.wins.length : Int) := by omega
          go_wp2_with fail
          refine (implWinOk_any s1 t1 g.wins[k] _ (hf.wins.2 k hk2) q1).mono ?_
          rintro e w2 ⟨⟨r, rfl, hr⟩, b2⟩
          have HR : Hid (r = true ↔ WinP g.wins[k]) := hr
          clear hr
          cases r with
          | false =>
            have HN : Hid (¬ GatP g) := fun h => by have := HR.out.2 (h.wins.2.2 k hk2); simp at this
            go_wp2_with fail
            go_ret
            exact ⟨isB_false HN.out, B1.trans (b2.mono B1.size)⟩
          | true =>
            have HST : Hid (∀ j, (h : j < g.wins.length) → j < k + 1 → WinP g.wins[j]) := win_step HI.out hk2 (HR.out.1 rfl)
            go_wp2_with fail
            exact ⟨⟨k + 1, by omega, by go_num, HST, hbl.trans (b2.mono hbl.size)⟩, by simp [intOf]; omega⟩
        · have HW : Hid (OkW g.wins) := ⟨by have := HP.out.1; have := HL.out; omega, by have := HP.out.2.1; have := HL.out; omega, fun j hj => HI.out j hj (by omega)⟩
          have e2 := cell_on hbl hlt d2
          go_wp2_with fail
          refine (implStampOk_any a2 c2 g.shown _ hf.shown.1 (r2.below B1) hf.shown.2).mono ?_
          rintro e w3 ⟨⟨r, rfl, hr⟩, b3⟩
          have HR : Hid (r = true ↔ GatP g) := hr.trans ⟨fun h => ⟨HP.out, HL.out, HW.out, h⟩, fun h => h.shown⟩
          clear hr
          go_wp2_with fail
          go_ret
          exact ⟨⟨r, rfl, HR.out⟩, B1.trans (b3.mono B1.size)⟩
    · have hlen' : ((g.wins.length : Int) != (g.ins.length : Int)) = true := by rw [bne_iff_ne]; omega
      have HN : Hid (¬ GatP g) := fun h => hlen h.len
      go_wp2_with fail
      go_ret
      exact ⟨isB_false HN.out, hb0⟩

end Go.Proofs.YtpfhegengmlkmacGreatDoor
/- Walks: fresh of gathers. -/
namespace Go.Proofs.YtpfhegengmlkmacGreatDoor
open Go.RowKit Go.BigFrame
set_option maxRecDepth 100000

/-- Three cells of a block of the call's own. -/
structure Tri (w : World) (b : Nat) (x y z : Value) : Prop where
  c0 : w.cell? ⟨b, 0, none⟩ = some x
  c1 : w.cell? ⟨b, 1, none⟩ = some y
  c2 : w.cell? ⟨b, 2, none⟩ = some z
  f0 : w.frozen? ⟨b, 0, none⟩ = false
  f1 : w.frozen? ⟨b, 1, none⟩ = false
  f2 : w.frozen? ⟨b, 2, none⟩ = false
theorem Tri.keep {w w' : World} {b : Nat} {x y z : Value} (h : Tri w b x y z) (hb : Below w.heap.size w w') : Tri w' b x y z := by
  have hlt := block_lt_of_cell h.c0
  exact ⟨cell_on hb hlt h.c0, cell_on hb hlt h.c1, cell_on hb hlt h.c2, (hb.frozen (p := ⟨b, 0, none⟩) hlt).trans h.f0, (hb.frozen (p := ⟨b, 1, none⟩) hlt).trans h.f1, (hb.frozen (p := ⟨b, 2, none⟩) hlt).trans h.f2⟩
theorem Tri.grown {w w' : World} {b : Nat} {x y z : Value} {r : Option Nat} (h : Tri w b x y z) (hg : w.grownBy w' r) (hne : some b ≠ r) : Tri w' b x y z := by
  have hlt := block_lt_of_cell h.c0
  exact ⟨grown_cell hg hne h.c0, grown_cell hg hne h.c1, grown_cell hg hne h.c2, (hg.frozen_far ⟨b, 0, none⟩ hlt hne).trans h.f0, (hg.frozen_far ⟨b, 1, none⟩ hlt hne).trans h.f1, (hg.frozen_far ⟨b, 2, none⟩ hlt hne).trans h.f2⟩
theorem Tri.set0 {w : World} {b : Nat} {x y z : Value} (h : Tri w b x y z) (v : Value) : Tri (w.setCell ⟨b, 0, none⟩ v) b v y z :=
  ⟨by simp [go_sem, h.c0], by simp [go_sem, h.c1], by simp [go_sem, h.c2], by simp [go_sem, h.f0], by simp [go_sem, h.f1], by simp [go_sem, h.f2]⟩
theorem Tri.set1 {w : World} {b : Nat} {x y z : Value} (h : Tri w b x y z) (v : Value) : Tri (w.setCell ⟨b, 1, none⟩ v) b x v z :=
  ⟨by simp [go_sem, h.c0], by simp [go_sem, h.c1], by simp [go_sem, h.c2], by simp [go_sem, h.f0], by simp [go_sem, h.f1], by simp [go_sem, h.f2]⟩
theorem Tri.far {w : World} {b q : Nat} {x y z : Value} (h : Tri w b x y z) (hq : b ≠ q) (i : Nat) (v : Value) : Tri (w.setCell ⟨q, i, none⟩ v) b x y z :=
  ⟨by rw [set_far _ _ _ _ hq]; exact h.c0, by rw [set_far _ _ _ _ hq]; exact h.c1, by rw [set_far _ _ _ _ hq]; exact h.c2, by simp [go_sem, h.f0], by simp [go_sem, h.f1], by simp [go_sem, h.f2]⟩
theorem tri_new (w : World) (x y z : Value) (t : TypeId) : Tri (w.alloc (.cells #[x, y, z] t)) w.heap.size x y z := ⟨by simp [go_sem], by simp [go_sem], by simp [go_sem], by simp [go_sem], by simp [go_sem], by simp [go_sem]⟩

theorem wp_append_str {o : Oper} {a : Act} {w : World} {K : Act → World → Prop} {Q : Exit → Act → World → Prop} (s x : Operand)
    (ho : o.op = .call { callee := .builtin .append, args := #[s, x], argTypes := #[22, 22] }) (base : Nat) (v : Value) (l : List ByteArray) (hs : a.eval s = v) (hg : GathS w base v l) (hbase : base ≤ w.heap.size)
    (ad : Nat) (t : ByteArray) (hx : a.eval x = .slice (some ⟨ad, 0, none⟩) 1 1) (c0 : w.cell? ⟨ad, 0, none⟩ = some (.string t)) (hl : l.length ≤ 1048576)
    (h : ∀ v' w', GathS w' base v' (l ++ [t]) → w.grownBy w' v.ownBlock → (v'.ownBlock = v.ownBlock ∨ v'.ownBlock = some w.heap.size) → K (a.put o.dst v') w') : o.wp Tryz.prog a w K Q := by
  obtain ⟨i0, hi, hz0, hz1, hz2⟩ := info_parts Tryz.infoS
  obtain ⟨v', w', hr, h2, h3, _, h5⟩ := run_append_own_at (P := Tryz.prog) w base 22 o.type 9 i0 (.string .empty) 1 16 Tryz.underlying22 hi hz0 hz1 hz2 rfl (by decide) v l.length (l.map .string) hg ⟨ad, 0, none⟩ 1 1 [.string t] rfl (by
      intro j u hj
      match j, hj with
      | 0, hj => simp at hj; subst hj; exact c0) (by simp [Value.oneCell']) (by unfold maxLen; omega) (by omega) hbase
  unfold Oper.wp execOp
  simp only [ho, resolve, invoke, builtin, Sem.run_bind, Sem.run_pure, Result.andThen_ok, List.map_toArray, List.map_cons, List.map_nil, hs, hx, hr]
  exact h _ w' (GathS.snoc h2) h3 h5
theorem wp_append_win {o : Oper} {a : Act} {w : World} {K : Act → World → Prop} {Q : Exit → Act → World → Prop} (s x : Operand)
    (ho : o.op = .call { callee := .builtin .append, args := #[s, x], argTypes := #[33, 33] }) (base : Nat) (v : Value) (L : List WinY) (hs : a.eval s = v) (hg : GathY w base v L) (hbase : base ≤ w.heap.size)
    (ad : Nat) (p : WinY) (hw : ∀ q ∈ L, q.hi ≤ p.lo) (hp : p.In w base) (hpv : ∀ k, v.ownBlock = some k → k < p.lo ∨ p.hi ≤ k) (hx : a.eval x = .slice (some ⟨ad, 0, none⟩) 1 1) (c0 : w.cell? ⟨ad, 0, none⟩ = some p.v) (hl : L.length ≤ 1048576)
    (h : ∀ v' w', GathY w' base v' (L ++ [p]) → w.grownBy w' v.ownBlock → (v'.ownBlock = v.ownBlock ∨ v'.ownBlock = some w.heap.size) → K (a.put o.dst v') w') : o.wp Tryz.prog a w K Q := by
  obtain ⟨i0, hi, hz0, hz1, hz2⟩ := info_parts Tryz.infoW
  obtain ⟨pa, pc, pe, _⟩ := hp.1
  obtain ⟨v', w', hr, h2, h3, _, h5⟩ := run_append_own_at (P := Tryz.prog) w base 33 o.type 78 i0 (.slice none 0 0) 1 24 Tryz.underlying33 hi hz0 hz1 hz2 rfl (by decide) v L.length (L.map (·.v)) hg.own ⟨ad, 0, none⟩ 1 1 [p.v] rfl (by
      intro j u hj
      match j, hj with
      | 0, hj => simp at hj; subst hj; exact c0) (by simp [Value.oneCell', pe]) (by unfold maxLen; omega) (by omega) hbase
  unfold Oper.wp execOp
  simp only [ho, resolve, invoke, builtin, Sem.run_bind, Sem.run_pure, Result.andThen_ok, List.map_toArray, List.map_cons, List.map_nil, hs, hx, hr]
  exact h _ w' (hg.snoc hw hp hpv h2 h3 h5) h3 h5
theorem own_grown {w w' : World} {g : Nat} {l : List (ByteArray × Int)} {r : Option Nat} (h : Own w g l) (hg : w.grownBy w' r) (hne : some g ≠ r) : Own w' g l := by
  have hlt := h.lt
  obtain ⟨m, f, h', hf⟩ := h
  exact ⟨m, f, h'.of_block (hg.block g hlt hne), hf⟩
theorem str_unlike : 9 ≠ 78 := by decide

/-- What fresh answers: all that the gather has, in memory of the call's own. -/
def FreG (w w' : World) (g : GatL) (e : Ending) : Prop := ∃ B v0 v1 L gm cm, w.heap.size ≤ B ∧ e = .returned (.agg #[v0, v1, .slice (some ⟨gm, 0, none⟩) g.shown.length cm]) ∧ GathS w' B v0 g.ins ∧ GathY w' B v1 L ∧ L.map (·.l) = g.wins ∧ (∀ p ∈ L, ∀ k, v0.ownBlock = some k → k < p.lo ∨ p.hi ≤ k) ∧ w.heap.size ≤ gm ∧ gm < B ∧ g.shown.length ≤ cm ∧ Own w' gm g.shown

set_option maxHeartbeats 12800000 in
theorem freshG_any (a0 a1 a2 : Option Addr) (c0 c1 c2 : Nat) (g : GatL) (w : World) (hi : g.ins.length ≤ 6) (hlen : g.wins.length = g.ins.length) (r0 : RowS w a0 g.ins) (r1 : RowW w a1 g.wins) (r2 : Row w a2 g.shown) (hn : ∀ j, (h : j < g.ins.length) → g.ins[j].size ≤ 8) (hw : ∀ j, (h : j < g.wins.length) → WinP g.wins[j]) (hs : StampP g.shown) :
    Calls Tryz.prog 91 #[.agg #[.slice a0 g.ins.length c0, .slice a1 g.wins.length c1, .slice a2 g.shown.length c2]] w fun e w' => FreG w w' g e ∧ Below w.heap.size w w' := by
  have HLEN : Hid (g.wins.length = g.ins.length) := hlen
  have hi' : g.wins.length ≤ 6 := by omega
  clear hlen
  have hb0 : Below w.heap.size w ((w.alloc (.cells #[.slice a0 g.ins.length c0, .slice a1 g.wins.length c1, .slice a2 g.shown.length c2] 36)).alloc (.cells #[.slice none 0 0, .slice none 0 0, .slice none 0 0] 36)) := ((Below.refl _ _).alloc (Nat.le_refl _) _).alloc (by simp) _
  have tP : Tri ((w.alloc (.cells #[.slice a0 g.ins.length c0, .slice a1 g.wins.length c1, .slice a2 g.shown.length c2] 36)).alloc (.cells #[.slice none 0 0, .slice none 0 0, .slice none 0 0] 36)) w.heap.size (.slice a0 g.ins.length c0) (.slice a1 g.wins.length c1) (.slice a2 g.shown.length c2) := (tri_new w _ _ _ _).keep ((Below.refl _ _).alloc (Nat.le_refl _) _)
  have tR : Tri ((w.alloc (.cells #[.slice a0 g.ins.length c0, .slice a1 g.wins.length c1, .slice a2 g.shown.length c2] 36)).alloc (.cells #[.slice none 0 0, .slice none 0 0, .slice none 0 0] 36)) (w.heap.size + 1) (.slice none 0 0) (.slice none 0 0) (.slice none 0 0) := by
    have h := tri_new (w.alloc (.cells #[.slice a0 g.ins.length c0, .slice a1 g.wins.length c1, .slice a2 g.shown.length c2] 36)) (.slice none 0 0) (.slice none 0 0) (.slice none 0 0) 36
    rw [World.size_alloc] at h
    exact h
  go_enter Tryz.func91, Tryz.ntmps91
  go_wp2_with fail
  generalize (w.alloc (.cells #[.slice a0 g.ins.length c0, .slice a1 g.wins.length c1, .slice a2 g.shown.length c2] 36)).alloc (.cells #[.slice none 0 0, .slice none 0 0, .slice none 0 0] 36) = W0 at *
  refine (freshMarks_any a2 c2 g.shown _ (r2.below hb0) (by have := hs.1; omega) (fun j hj => by have := (hs.2.1 j hj).1.2.1; omega)).mono ?_
  rintro e w1 ⟨⟨gm, cm, rfl, hgm, hcm, hom⟩, b1⟩
  have hbt : Below w1.heap.size w1 (w1.alloc (.cells #[.slice none 0 0, .slice none 0 0, .slice (some ⟨gm, 0, none⟩) g.shown.length cm] 36)) := (Below.refl _ _).alloc (Nat.le_refl _) _
  have tT := tri_new w1 (.slice none 0 0) (.slice none 0 0) (.slice (some ⟨gm, 0, none⟩) g.shown.length cm) 36
  have tP1 := (tP.keep b1).keep hbt
  have tR1 := (tR.keep b1).keep hbt
  have B1 : Below w.heap.size w w1 := hb0.trans (b1.mono hb0.size)
  have BT : Below w.heap.size w (w1.alloc (.cells #[.slice none 0 0, .slice none 0 0, .slice (some ⟨gm, 0, none⟩) g.shown.length cm] 36)) := B1.trans (hbt.mono B1.size)
  have omT := hom.below hbt
  have x0 := tP1.c0
  have zg : gm < w1.heap.size := hom.lt
  have zW0 : w.heap.size + 1 < W0.heap.size := block_lt_of_cell tR.c0
  have zW : w.heap.size + 2 ≤ w1.heap.size := by have h1 : w.heap.size + 1 < W0.heap.size := block_lt_of_cell tR.c0; have := b1.size; omega
  go_wp2_with fail
  generalize w1.alloc (.cells #[.slice none 0 0, .slice none 0 0, .slice (some ⟨gm, 0, none⟩) g.shown.length cm] 36) = WT at *
  have zT : w1.heap.size < WT.heap.size := block_lt_of_cell tT.c0
  go_loopw [13] (fun i wr => ∃ (k : Nat) (vi vw : Value) (L : List WinY), k ≤ g.ins.length ∧ i = .int .i64 k ∧ GathS wr (w1.heap.size + 1) vi (g.ins.take k) ∧ GathY wr (w1.heap.size + 1) vw L ∧ Hid (L.map (·.l) = g.wins.take k) ∧ Hid (∀ p ∈ L, ∀ k, vi.ownBlock = some k → k < p.lo ∨ p.hi ≤ k) ∧
    Tri wr w.heap.size (.slice a0 g.ins.length c0) (.slice a1 g.wins.length c1) (.slice a2 g.shown.length c2) ∧ Tri wr (w.heap.size + 1) (.slice none 0 0) (.slice none 0 0) (.slice none 0 0) ∧ Tri wr w1.heap.size vi vw (.slice (some ⟨gm, 0, none⟩) g.shown.length cm) ∧ Own wr gm g.shown ∧ w1.heap.size + 1 ≤ wr.heap.size ∧ Below w.heap.size w wr) (fun i _ => g.ins.length - (intOf i).toNat)
  case atStart => exact ⟨0, _, _, [], Nat.zero_le _, rfl, gathS_none _ _, gathY_none _ _, by simp [Hid], by simp [Hid], tP1, tR1, tT, omT, zT, BT⟩
  case round =>
    clear tP1 tR1 tT omT BT x0 tP tR b1 hbt B1 hom
    obtain ⟨k, vi, vw, L, hk, rfl, hgs, hgy, HL, HF, tP, tR, tT, hom, hsz, hbl⟩ := hrel
    by_cases hlt : k < g.ins.length
    · obtain ⟨bn, on, rfl, hbn, n0⟩ := r0 k hlt
      have hkw : k < g.wins.length := by rw [HLEN.out]; exact hlt
      obtain ⟨bw, ow, rfl, hbw, sw, tw, m0, hcw, hrw⟩ := r1 k hkw
      have n0' := cell_on hbl hbn n0
      have k0 : (0 : Int) ≤ (k : Int) := by omega
      have k1 : (k : Int) < (g.ins.length : Int) := by omega
      have k2 : (k : Int) < (g.wins.length : Int) := by omega
      have hnk := hn k hlt
      have x0 := tT.c0
      go_wp2_with fail
      have hbd : Below wr.heap.size wr wr.drew := (Below.refl _ _).drew
      have tT0 : (wr.drew).cell? ⟨w1.heap.size, 0, none⟩ = some vi := tT.c0
      refine wp_region_held_drew (S := fun _ => True) (by kernel_rfl) trivial (fun _ => ?_)
      refine wpAnyH_take (i := 0) (v := .pointer (some ⟨w1.heap.size, 0, none⟩)) rfl (by kernel_rfl) (by kernel_rfl) (by kernel_rfl) (fun _ _ _ h => h) (Or.inl ⟨by rfl, ?_⟩) trivial ?_
      · rintro u _
        go_simp
      simp only [Act.put, List.setIfInBounds_toArray]
      refine wpAnyH_take (i := 2) (v := .string g.ins[k]) rfl (by kernel_rfl) (by kernel_rfl) (by kernel_rfl) (fun _ _ _ h => h) (Or.inl ⟨by rfl, ?_⟩) trivial ?_
      · rintro u _
        go_simp
      simp only [Act.put]
      have hclone : ∀ u, Calls Tryz.prog 132 #[.string g.ins[k]] u fun e w' => e = .returned (.string g.ins[k]) ∧ Below u.heap.size u w' := fun u => strClone_any g.ins[k] u (by omega)
      refine wpAnyH_ready (rs := [1, 3]) (by kernel_rfl) (by simp) ?_
      refine AllReadyH.cons rfl (fun K hK => ?_) (AllReadyH.cons rfl (fun K hK => ?_) AllReadyH.nil)
      rw [if_pos (by rfl)]
      go_simp
      refine hK.out _ _ trivial (fun _ => ?_)
      clear hK K
      refine wpAnyH_ready (rs := [3]) (by kernel_rfl) (by simp) ?_
      refine AllReadyH.cons rfl (fun K hK => ?_) AllReadyH.nil
      rw [if_pos (by rfl)]
      go_simp
      refine (hclone _).mono ?_
      rintro e w2 ⟨rfl, b2⟩
      have b2' : Below wr.heap.size wr w2 := hbd.trans (b2.mono hbd.size)
      refine hK.out _ _ trivial (fun _ => ?_)
      clear hK K
      refine wpAnyH_ready (rs := [4]) (by kernel_rfl) (by simp) ?_
      refine AllReadyH.cons rfl (fun K hK => ?_) AllReadyH.nil
      rw [if_pos (by rfl)]
      go_simp
      refine hK.out _ _ trivial (fun _ => ?_)
      clear hK K
      rotate_left
      rw [if_pos (by rfl)]
      go_simp
      refine (hclone _).mono ?_
      rintro e w2 ⟨rfl, b2⟩
      have b2' : Below wr.heap.size wr w2 := hbd.trans (b2.mono hbd.size)
      have y2 := (tT.keep b2').c0
      have hbx2 : Below w2.heap.size w2 (w2.alloc (.cells #[.string g.ins[k]] 9)) := (Below.refl _ _).alloc (Nat.le_refl _) _
      have y3 := ((tT.keep b2').keep hbx2).c0
      refine hK.out _ _ trivial (fun _ => ?_)
      clear hK K
      refine wpAnyH_ready (rs := [1, 4]) (by kernel_rfl) (by simp) ?_
      refine AllReadyH.cons rfl (fun K hK => ?_) (AllReadyH.cons rfl (fun K hK => ?_) AllReadyH.nil)
      rw [if_pos (by rfl)]
      go_simp
      refine hK.out _ _ trivial (fun _ => ?_)
      clear hK K
      refine wpAnyH_ready (rs := [4]) (by kernel_rfl) (by simp) ?_
      refine AllReadyH.cons rfl (fun K hK => ?_) AllReadyH.nil
      rw [if_pos (by rfl)]
      go_simp
      refine hK.out _ _ trivial (fun _ => ?_)
      clear hK K y2 y3 hbx2
      rotate_left
      rw [if_pos (by rfl)]
      go_simp
      refine hK.out _ _ trivial (fun _ => ?_)
      clear hK K
      refine wpAnyH_ready (rs := [1]) (by kernel_rfl) (by simp) ?_
      refine AllReadyH.cons rfl (fun K hK => ?_) AllReadyH.nil
      rw [if_pos (by rfl)]
      go_simp
      refine hK.out _ _ trivial (fun _ => ?_)
      clear hK K y2 y3 hbx2
      all_goals
        have hbx : Below wr.heap.size wr (w2.alloc (.cells #[.string g.ins[k]] 9)) := b2'.alloc b2'.size _
        have htl : (g.ins.take k).length ≤ 1048576 := by rw [List.length_take]; omega
        refine wpAnyH_ready (rs := [5]) (by kernel_rfl) (by simp) ?_
        refine AllReadyH.cons rfl (fun K hK => ?_) AllReadyH.nil
        rw [if_pos (by rfl)]
        refine wp_append_str _ _ rfl (w1.heap.size + 1) vi (g.ins.take k) rfl (hgs.keep hbx) (by have := hbx.size; omega) w2.heap.size g.ins[k] rfl (by simp [go_sem]) htl ?_
        intro vi' w5 hgs5 hgr5 hloc5
        have hfar : ∀ q, q < w1.heap.size + 1 → some q ≠ vi.ownBlock := fun q hq e => by have := ownsRow_block hgs q e.symm; omega
        have tP5 := (tP.keep hbx).grown hgr5 (hfar _ (by omega))
        have tR5 := (tR.keep hbx).grown hgr5 (hfar _ (by omega))
        have tT5 := (tT.keep hbx).grown hgr5 (hfar _ (by omega))
        have hom5 := own_grown (hom.below hbx) hgr5 (hfar _ (by omega))
        have hgy5 := (hgy.keep hbx).grown hgr5 ((own_types (show World.ownsRow _ _ _ _ _ _ _ from hgs) hgy.own str_unlike).symm.elim (fun h => by
          cases hb : vw.ownBlock with
          | none => exact .inl rfl
          | some q => exact .inr (fun e => h (by rw [← e, hb]))) (fun h => by
          cases hb : vw.ownBlock with
          | none => exact .inl rfl
          | some q => exact .inr (fun e => by rw [h] at e; cases e))) HF.out
        have B5 : Below w.heap.size w w5 := (hbl.trans (hbx.mono hbl.size)).grown hgr5 (by have := hbx.size; have := hbl.size; omega) (fun q hq => by have := ownsRow_block hgs q hq; omega)
        have z5 := hgr5.size
        have HF5 : Hid (∀ p ∈ L, ∀ q, vi'.ownBlock = some q → q < p.lo ∨ p.hi ≤ q) := fun p hp q hq => by
          rcases hloc5 with e | e
          · exact HF.out p hp q (by rw [← e]; exact hq)
          · rw [e] at hq
            cases hq
            have := (hgy.at_ p hp).2.2.2
            have := hbx.size
            exact .inr (by omega)
        obtain ⟨via, vic, rfl, _⟩ := hgs5.shape
        generalize (g.ins.take k ++ [g.ins[k]]).length = n5 at hgs5 HF5 hloc5 ⊢
        have HT : Hid (g.ins.take (k + 1) = g.ins.take k ++ [g.ins[k]]) := List.take_succ_eq_append_getElem hlt
        refine hK.out _ _ trivial (fun _ => ?_)
        clear hK K
        have q0 := tT5.c0
        have q1 := tT5.f0
        refine wpAnyH_ready (rs := [6]) (by kernel_rfl) (by simp) ?_
        refine AllReadyH.cons rfl (fun K hK => ?_) AllReadyH.nil
        rw [if_pos (by rfl)]
        go_simp
        refine hK.out _ _ trivial (fun _ => ?_)
        clear hK K
        refine wpAnyH_ready (rs := [7]) (by kernel_rfl) (by simp) ?_
        refine AllReadyH.cons rfl (fun K hK => ?_) AllReadyH.nil
        rw [if_pos (by rfl)]
        go_simp
        refine hK.out _ _ trivial (fun _ => ?_)
        clear hK K
        refine wpAnyH_done (by kernel_rfl) ?_ _
        have tP6 := tP5.far (q := w1.heap.size) (by omega) 0 (.slice via n5 vic)
        have tR6 := tR5.far (q := w1.heap.size) (by omega) 0 (.slice via n5 vic)
        have tT6 := tT5.set0 (.slice via n5 vic)
        have hom6 := hom5.setOther (q := w1.heap.size) (by omega) 0 (.slice via n5 vic)
        have hgy6 := hgy5.set (q := w1.heap.size) (by omega) 0 (.slice via n5 vic)
        have hgs6 : GathS (w5.setCell ⟨w1.heap.size, 0, none⟩ (.slice via n5 vic)) (w1.heap.size + 1) (.slice via n5 vic) (g.ins.take k ++ [g.ins[k]]) := own_farY hgs5 (by omega) 0 _
        have B6 := B5.setCell (p := ⟨w1.heap.size, 0, none⟩) (by simp only; omega) (.slice via n5 vic)
        have z6 : w1.heap.size + 1 ≤ (w5.setCell ⟨w1.heap.size, 0, none⟩ (.slice via n5 vic)).heap.size := by
          have := hbx.size
          simp only [World.size_setCell]
          omega
        clear tP5 tR5 tT5 hom5 hgy5 hgs5 B5 tP tR tT hom hgy hgs hbl hbx b2 b2' q0 q1 hbd tT0 x0 n0' HF hclone
        go_wp2_with fail
        generalize w5.setCell ⟨w1.heap.size, 0, none⟩ (.slice via n5 vic) = W6 at *
        generalize hvi : (Value.slice via n5 vic) = vi6 at *
        clear hvi
        have m6 := cell_on B6 hbw m0
        have hbd6 : Below W6.heap.size W6 W6.drew := (Below.refl _ _).drew
        have SW : (W6.drew).cell? ⟨w.heap.size, 1, none⟩ = some (.slice (some ⟨bw, ow, none⟩) g.wins.length c1) ∧ (W6.drew).cell? ⟨bw, ow + k, none⟩ = some (.slice sw g.wins[k].length tw) := ⟨tP6.c1, m6⟩
        have hpw : w.heap.size < W6.heap.size := block_lt_of_cell tP6.c1
        have hbw6 : bw < W6.heap.size := Nat.lt_of_lt_of_le hbw B6.size
        have hfi : ∀ u, Below W6.heap.size W6 u → Calls Tryz.prog 133 #[.slice sw g.wins[k].length tw] u fun e w' => (∃ v, e = .returned v ∧ GathI w' u.heap.size v g.wins[k]) ∧ Below u.heap.size u w' := fun u hu => freshItems_any sw tw g.wins[k] u (hrw.below (B6.trans (hu.mono B6.size))) (by have := (hw k hkw).1; omega) (fun j hj => ((hw k hkw).2.1 j hj).1)
        have x1 := tT6.c1
        refine wp_region_held_drew (S := fun u => u.cell? ⟨w.heap.size, 1, none⟩ = some (.slice (some ⟨bw, ow, none⟩) g.wins.length c1) ∧ u.cell? ⟨bw, ow + k, none⟩ = some (.slice sw g.wins[k].length tw)) (by kernel_rfl) SW (fun _ => ?_)
        refine wpAnyH_take (i := 0) (v := .pointer (some ⟨w1.heap.size, 1, none⟩)) rfl (by kernel_rfl) (by kernel_rfl) (by kernel_rfl) (fun _ _ _ h => h) (Or.inl ⟨by rfl, ?_⟩) SW ?_
        · rintro u ⟨q1, q2⟩
          go_simp
        simp only [Act.put, List.setIfInBounds_toArray]
        refine wpAnyH_take (i := 2) (v := .pointer (some ⟨w.heap.size, 1, none⟩)) rfl (by kernel_rfl) (by kernel_rfl) (by kernel_rfl) (fun _ _ _ h => h) (Or.inl ⟨by rfl, ?_⟩) SW ?_
        · rintro u ⟨q1, q2⟩
          go_simp
        simp only [Act.put]
        refine wpAnyH_take (i := 3) (v := .slice (some ⟨bw, ow, none⟩) g.wins.length c1) rfl (by kernel_rfl) (by kernel_rfl) (by kernel_rfl) (fun _ _ _ h => h) (Or.inl ⟨by rfl, ?_⟩) SW ?_
        · rintro u ⟨q1, q2⟩
          go_simp
        simp only [Act.put]
        refine wpAnyH_take (i := 4) (v := .int .i64 k) rfl (by kernel_rfl) (by kernel_rfl) (by kernel_rfl) (fun _ _ _ h => h) (Or.inl ⟨by rfl, ?_⟩) SW ?_
        · rintro u ⟨q1, q2⟩
          go_simp
        simp only [Act.put]
        refine wpAnyH_take (i := 5) (v := .pointer (some ⟨bw, ow + k, none⟩)) rfl (by kernel_rfl) (by kernel_rfl) (by kernel_rfl) (fun _ _ _ h => h) (Or.inl ⟨by rfl, ?_⟩) SW ?_
        · rintro u ⟨q1, q2⟩
          go_simp
        simp only [Act.put]
        refine wpAnyH_take (i := 6) (v := .slice sw g.wins[k].length tw) rfl (by kernel_rfl) (by kernel_rfl) (by kernel_rfl) (fun _ _ _ h => h) (Or.inl ⟨by rfl, ?_⟩) SW ?_
        · rintro u ⟨q1, q2⟩
          go_simp
        simp only [Act.put]
        refine wpAnyH_ready (rs := [1, 7]) (by kernel_rfl) (by simp) ?_
        refine AllReadyH.cons rfl (fun K hK => ?_) (AllReadyH.cons rfl (fun K hK => ?_) AllReadyH.nil)
        rw [if_pos (by rfl)]
        go_simp
        refine hK.out _ _ SW (fun _ => ?_)
        clear hK K
        refine wpAnyH_ready (rs := [7]) (by kernel_rfl) (by simp) ?_
        refine AllReadyH.cons rfl (fun K hK => ?_) AllReadyH.nil
        rw [if_pos (by rfl)]
        go_simp
        refine (hfi _ hbd6).mono ?_
        rintro e w7 ⟨⟨v7, rfl, hg7⟩, b7⟩
        have b7' : Below W6.heap.size W6 w7 := hbd6.trans (b7.mono hbd6.size)
        have S7 : w7.cell? ⟨w.heap.size, 1, none⟩ = some (.slice (some ⟨bw, ow, none⟩) g.wins.length c1) ∧ w7.cell? ⟨bw, ow + k, none⟩ = some (.slice sw g.wins[k].length tw) := ⟨cell_on b7' hpw tP6.c1, cell_on b7' hbw6 m6⟩
        refine hK.out _ _ S7 (fun _ => ?_)
        clear hK K
        obtain ⟨v7a, v7c, rfl, h7c, _⟩ := hg7.safe
        refine wpAnyH_ready (rs := [8]) (by kernel_rfl) (by simp) ?_
        refine AllReadyH.cons rfl (fun K hK => ?_) AllReadyH.nil
        rw [if_pos (by rfl)]
        go_simp
        have b8 : Below W6.heap.size W6 (w7.alloc (.cells #[.slice v7a g.wins[k].length v7c] 78)) := b7'.alloc b7'.size _
        have S8 : (w7.alloc (.cells #[.slice v7a g.wins[k].length v7c] 78)).cell? ⟨w.heap.size, 1, none⟩ = some (.slice (some ⟨bw, ow, none⟩) g.wins.length c1) ∧ (w7.alloc (.cells #[.slice v7a g.wins[k].length v7c] 78)).cell? ⟨bw, ow + k, none⟩ = some (.slice sw g.wins[k].length tw) := ⟨cell_on b8 hpw tP6.c1, cell_on b8 hbw6 m6⟩
        refine hK.out _ _ S8 (fun _ => ?_)
        clear hK K
        rotate_left
        rw [if_pos (by rfl)]
        go_simp
        refine (hfi _ hbd6).mono ?_
        rintro e w7 ⟨⟨v7, rfl, hg7⟩, b7⟩
        have b7' : Below W6.heap.size W6 w7 := hbd6.trans (b7.mono hbd6.size)
        have S7 : w7.cell? ⟨w.heap.size, 1, none⟩ = some (.slice (some ⟨bw, ow, none⟩) g.wins.length c1) ∧ w7.cell? ⟨bw, ow + k, none⟩ = some (.slice sw g.wins[k].length tw) := ⟨cell_on b7' hpw tP6.c1, cell_on b7' hbw6 m6⟩
        refine hK.out _ _ S7 (fun _ => ?_)
        clear hK K
        obtain ⟨v7a, v7c, rfl, h7c, _⟩ := hg7.safe
        have b8 : Below W6.heap.size W6 (w7.alloc (.cells #[.slice v7a g.wins[k].length v7c] 78)) := b7'.alloc b7'.size _
        have S8 : (w7.alloc (.cells #[.slice v7a g.wins[k].length v7c] 78)).cell? ⟨w.heap.size, 1, none⟩ = some (.slice (some ⟨bw, ow, none⟩) g.wins.length c1) ∧ (w7.alloc (.cells #[.slice v7a g.wins[k].length v7c] 78)).cell? ⟨bw, ow + k, none⟩ = some (.slice sw g.wins[k].length tw) := ⟨cell_on b8 hpw tP6.c1, cell_on b8 hbw6 m6⟩
        have y7 := (tT6.keep b7').c1
        have y8 := (tT6.keep b8).c1
        refine wpAnyH_ready (rs := [1, 8]) (by kernel_rfl) (by simp) ?_
        refine AllReadyH.cons rfl (fun K hK => ?_) (AllReadyH.cons rfl (fun K hK => ?_) AllReadyH.nil)
        rw [if_pos (by rfl)]
        go_simp
        refine hK.out _ _ S7 (fun _ => ?_)
        clear hK K
        refine wpAnyH_ready (rs := [8]) (by kernel_rfl) (by simp) ?_
        refine AllReadyH.cons rfl (fun K hK => ?_) AllReadyH.nil
        rw [if_pos (by rfl)]
        go_simp
        refine hK.out _ _ S8 (fun _ => ?_)
        clear hK K y7 y8
        rotate_left
        rw [if_pos (by rfl)]
        go_simp
        refine hK.out _ _ S8 (fun _ => ?_)
        clear hK K
        refine wpAnyH_ready (rs := [1]) (by kernel_rfl) (by simp) ?_
        refine AllReadyH.cons rfl (fun K hK => ?_) AllReadyH.nil
        rw [if_pos (by rfl)]
        go_simp
        refine hK.out _ _ S8 (fun _ => ?_)
        clear hK K y7 y8
        all_goals
          have hzd : W6.drew.heap.size = W6.heap.size := rfl
          have hin0 := hg7.winY b7.size
          have hin : (WinY.mk g.wins[k] (.slice v7a g.wins[k].length v7c) W6.drew.heap.size w7.heap.size).In w7 (w1.heap.size + 1) := ⟨hin0.1, by show w1.heap.size + 1 ≤ W6.drew.heap.size; omega, hin0.2.2.1, hin0.2.2.2⟩
          have hbx8 : Below w7.heap.size w7 (w7.alloc (.cells #[.slice v7a g.wins[k].length v7c] 78)) := (Below.refl _ _).alloc (Nat.le_refl _) _
          have hlL : L.length ≤ 1048576 := by have := congrArg List.length HL.out; rw [List.length_map, List.length_take] at this; omega
          refine wpAnyH_ready (rs := [9]) (by kernel_rfl) (by simp) ?_
          refine AllReadyH.cons rfl (fun K hK => ?_) AllReadyH.nil
          rw [if_pos (by rfl)]
          refine wp_append_win _ _ rfl (w1.heap.size + 1) vw L rfl (hgy6.keep b8) (by have := b8.size; omega) w7.heap.size (WinY.mk g.wins[k] (.slice v7a g.wins[k].length v7c) W6.drew.heap.size w7.heap.size) (fun q hq => by have := (hgy6.at_ q hq).2.2.2; exact this) (hin.below hbx8) (fun q hq => .inl (by have := (World.ownsRow.lt hgy6.own q hq).2; exact this)) rfl (by simp [go_sem]) hlL ?_
          intro vw' w9 hgy9 hgr9 hloc9
          have hfar9 : ∀ q, q < w1.heap.size + 1 → some q ≠ vw.ownBlock := fun q hq e => by have := own_from hgy6.own q e.symm; omega
          have tP9 := (tP6.keep b8).grown hgr9 (hfar9 _ (by omega))
          have tR9 := (tR6.keep b8).grown hgr9 (hfar9 _ (by omega))
          have tT9 := (tT6.keep b8).grown hgr9 (hfar9 _ (by omega))
          have hom9 := own_grown (hom6.below b8) hgr9 (hfar9 _ (by omega))
          have hgs9 : GathS w9 (w1.heap.size + 1) vi6 (g.ins.take k ++ [g.ins[k]]) := World.ownsRow.kept (hgs6.keep b8) hgr9 (own_types (show World.ownsRow _ _ _ _ _ _ _ from hgs6) hgy6.own str_unlike)
          have z9 := hgr9.size
          have z8 := b8.size
          have B9 : Below w.heap.size w w9 := (B6.trans (b8.mono B6.size)).grown hgr9 (by have := B6.size; omega) (fun q hq => by have := own_from hgy6.own q hq; omega)
          have HF9 : Hid (∀ p ∈ L ++ [(WinY.mk g.wins[k] (.slice v7a g.wins[k].length v7c) W6.drew.heap.size w7.heap.size)], ∀ q, vi6.ownBlock = some q → q < p.lo ∨ p.hi ≤ q) := fun p hp q hq => by
            rcases List.mem_append.1 hp with hp | hp
            · exact HF5.out p hp q hq
            · obtain rfl : p = _ := by simpa using hp
              exact .inl ((World.ownsRow.lt hgs6 q hq).2)
          have HL9 : Hid ((L ++ [(WinY.mk g.wins[k] (.slice v7a g.wins[k].length v7c) W6.drew.heap.size w7.heap.size)]).map (·.l) = g.wins.take (k + 1)) := by
            unfold Hid
            rw [List.map_append, HL.out, List.take_succ_eq_append_getElem hkw]
            rfl
          have S9 : w9.cell? ⟨w.heap.size, 1, none⟩ = some (.slice (some ⟨bw, ow, none⟩) g.wins.length c1) ∧ w9.cell? ⟨bw, ow + k, none⟩ = some (.slice sw g.wins[k].length tw) := ⟨tP9.c1, grown_cell hgr9 (hfar9 _ (by omega)) S8.2⟩
          obtain ⟨vwa, vwc, rfl, _, _⟩ := hgy9.row
          generalize (L ++ [(WinY.mk g.wins[k] (.slice v7a g.wins[k].length v7c) W6.drew.heap.size w7.heap.size)]) = L9 at *
          generalize L9.length = n9 at hgy9 hloc9 ⊢
          refine hK.out _ _ S9 (fun _ => ?_)
          clear hK K
          have q0 := tT9.c1
          have q1 := tT9.f1
          refine wpAnyH_ready (rs := [10]) (by kernel_rfl) (by simp) ?_
          refine AllReadyH.cons rfl (fun K hK => ?_) AllReadyH.nil
          rw [if_pos (by rfl)]
          go_simp
          refine hK.out _ _ S9 (fun _ => ?_)
          clear hK K
          have tPf := tP9.far (q := w1.heap.size) (by omega) 1 (.slice vwa n9 vwc)
          have S10 : (w9.setCell ⟨w1.heap.size, 1, none⟩ (.slice vwa n9 vwc)).cell? ⟨w.heap.size, 1, none⟩ = some (.slice (some ⟨bw, ow, none⟩) g.wins.length c1) ∧ (w9.setCell ⟨w1.heap.size, 1, none⟩ (.slice vwa n9 vwc)).cell? ⟨bw, ow + k, none⟩ = some (.slice sw g.wins[k].length tw) := ⟨tPf.c1, by rw [set_far _ _ _ _ (by omega)]; exact S9.2⟩
          refine wpAnyH_ready (rs := [11]) (by kernel_rfl) (by simp) ?_
          refine AllReadyH.cons rfl (fun K hK => ?_) AllReadyH.nil
          rw [if_pos (by rfl)]
          go_simp
          refine hK.out _ _ S10 (fun _ => ?_)
          clear hK K
          refine wpAnyH_done (by kernel_rfl) ?_ _
          go_wp2_with fail
          exact ⟨⟨k + 1, vi6, _, L9, by omega, by go_num, by rw [HT.out]; exact own_farY hgs9 (by omega) 1 _, hgy9.set (by omega) 1 _, HL9, HF9, tPf, tR9.far (by omega) 1 _, tT9.set1 _, hom9.setOther (by omega) 1 _, by simp only [World.size_setCell]; omega, B9.setCell (by simp only; omega) _⟩, by simp [intOf]; omega⟩
    · obtain rfl : k = g.ins.length := by omega
      have hf1 : g.ins.take g.ins.length = g.ins := List.take_of_length_le (Nat.le_refl _)
      have hf2 : g.wins.take g.ins.length = g.wins := List.take_of_length_le (by rw [HLEN.out]; exact Nat.le_refl _)
      rw [hf1] at hgs
      rw [hf2] at HL
      obtain ⟨d0, d1, d2, _, _, _⟩ := id tT
      obtain ⟨r0', r1', r2', f0, f1, f2⟩ := id tR
      obtain ⟨sia, sic, rfl, _⟩ := hgs.shape
      obtain ⟨swa, swc, rfl, _, _⟩ := hgy.row
      clear hf1 hf2
      go_wp2_with fail
      have e0 : (((wr.setCell ⟨w.heap.size + 1, 0, none⟩ (.slice sia g.ins.length sic)).setCell ⟨w.heap.size + 1, 1, none⟩ (.slice swa L.length swc)).setCell ⟨w.heap.size + 1, 2, none⟩ (.slice (some ⟨gm, 0, none⟩) g.shown.length cm)).cell? ⟨w.heap.size + 1, 0, none⟩ = some (.slice sia g.ins.length sic) := by simp [go_sem, r0']
      have e1 : (((wr.setCell ⟨w.heap.size + 1, 0, none⟩ (.slice sia g.ins.length sic)).setCell ⟨w.heap.size + 1, 1, none⟩ (.slice swa L.length swc)).setCell ⟨w.heap.size + 1, 2, none⟩ (.slice (some ⟨gm, 0, none⟩) g.shown.length cm)).cell? ⟨w.heap.size + 1, 1, none⟩ = some (.slice swa L.length swc) := by simp [go_sem, r1']
      have e2 : (((wr.setCell ⟨w.heap.size + 1, 0, none⟩ (.slice sia g.ins.length sic)).setCell ⟨w.heap.size + 1, 1, none⟩ (.slice swa L.length swc)).setCell ⟨w.heap.size + 1, 2, none⟩ (.slice (some ⟨gm, 0, none⟩) g.shown.length cm)).cell? ⟨w.heap.size + 1, 2, none⟩ = some (.slice (some ⟨gm, 0, none⟩) g.shown.length cm) := by simp [go_sem, r2']
      have g1 := (((show World.ownsRow _ _ _ _ _ _ _ from hgs) |> (own_farY · (q := w.heap.size + 1) (by omega) 0 (.slice sia g.ins.length sic))) |> (own_farY · (q := w.heap.size + 1) (by omega) 1 (.slice swa L.length swc))) |> (own_farY · (q := w.heap.size + 1) (by omega) 2 (.slice (some ⟨gm, 0, none⟩) g.shown.length cm))
      have g2 := ((hgy.set (q := w.heap.size + 1) (by omega) 0 (.slice sia g.ins.length sic)).set (q := w.heap.size + 1) (by omega) 1 (.slice swa L.length swc)).set (q := w.heap.size + 1) (by omega) 2 (.slice (some ⟨gm, 0, none⟩) g.shown.length cm)
      have g3 := ((hom.setOther (q := w.heap.size + 1) (by omega) 0 (.slice sia g.ins.length sic)).setOther (q := w.heap.size + 1) (by omega) 1 (.slice swa L.length swc)).setOther (q := w.heap.size + 1) (by omega) 2 (.slice (some ⟨gm, 0, none⟩) g.shown.length cm)
      have B9 := ((hbl.setCell (p := ⟨w.heap.size + 1, 0, none⟩) (by simp only; omega) (.slice sia g.ins.length sic)).setCell (p := ⟨w.heap.size + 1, 1, none⟩) (by simp only; omega) (.slice swa L.length swc)).setCell (p := ⟨w.heap.size + 1, 2, none⟩) (by simp only; omega) (.slice (some ⟨gm, 0, none⟩) g.shown.length cm)
      exact bodyPost_ret (v := .agg #[.slice sia g.ins.length sic, .slice swa L.length swc, .slice (some ⟨gm, 0, none⟩) g.shown.length cm]) (by simp [results, Tryz.results91, go_sem, e0, e1, e2]) rfl ⟨⟨w1.heap.size + 1, _, _, L, gm, cm, by omega, rfl, g1, g2, HL.out, HF.out, by omega, by omega, hcm, g3⟩, B9⟩

end Go.Proofs.YtpfhegengmlkmacGreatDoor
/- An answer that is a gather: marked, and held. -/
namespace Go.Proofs.YtpfhegengmlkmacGreatDoor
open Go.RowKit Go.BigFrame
set_option maxRecDepth 100000

/-- Block 't' begins with the windows of L, each in blocks of its own between lo and hi. -/
structure YW (w : World) (lo hi t : Nat) (L : List WinY) : Prop where
  lt : t < w.heap.size
  cell : ∀ k, (h : k < L.length) → w.cell? ⟨t, k, none⟩ = some L[k].v
  at_ : ∀ p ∈ L, ∃ a c, p.v = .slice a p.l.length c ∧ p.l.length ≤ c ∧ SafeI w p.lo p.hi a p.l
  far : ∀ p ∈ L, t < p.lo ∨ p.hi ≤ t
  in_ : ∀ p ∈ L, lo ≤ p.lo ∧ p.lo ≤ p.hi ∧ p.hi ≤ hi
  dis : L.Pairwise fun p q => p.hi ≤ q.lo ∨ q.hi ≤ p.lo
theorem YW.below {w w' : World} {lo hi t : Nat} {L : List WinY} (h : YW w lo hi t L) (hb : Below w.heap.size w w') : YW w' lo hi t L :=
  ⟨Nat.lt_of_lt_of_le h.lt hb.size, fun k hk => cell_on hb h.lt (h.cell k hk), fun p hp => by obtain ⟨a, c, h1, h2, h3⟩ := h.at_ p hp; exact ⟨a, c, h1, h2, h3.below hb⟩, h.far, h.in_, h.dis⟩
/-- All but the windows' own blocks lies as it lay. -/
structure KeepY (L : List WinY) (w w' : World) : Prop where
  os : w'.os = w.os
  tape : w'.tape = w.tape
  output : w'.output = w.output
  size : w.heap.size ≤ w'.heap.size
  block : ∀ k, k < w.heap.size → (∀ p ∈ L, k < p.lo ∨ p.hi ≤ k) → w'.heap[k]? = w.heap[k]?
theorem KeepY.refl (L : List WinY) (w : World) : KeepY L w w := ⟨rfl, rfl, rfl, Nat.le_refl _, fun _ _ _ => rfl⟩
theorem KeepY.trans {L : List WinY} {x y z : World} (h : KeepY L x y) (k : KeepY L y z) : KeepY L x z := ⟨k.os.trans h.os, k.tape.trans h.tape, k.output.trans h.output, Nat.le_trans h.size k.size, fun i hi hn => (k.block i (Nat.lt_of_lt_of_le hi h.size) hn).trans (h.block i hi hn)⟩
theorem KeepY.of_below {L : List WinY} {w w' : World} (h : Below w.heap.size w w') : KeepY L w w' := ⟨h.os, h.tape, h.output, h.size, fun k hk _ => h.block k hk⟩
theorem KeepY.of_span {L : List WinY} {w w' : World} {p : WinY} (hp : p ∈ L) (h : Span p.lo p.hi w w') : KeepY L w w' := ⟨h.os, h.tape, h.output, h.size, fun k hk hn => h.block k hk (hn p hp)⟩
theorem KeepY.span {L : List WinY} {w w' : World} {lo hi : Nat} (h : KeepY L w w') (hin : ∀ p ∈ L, lo ≤ p.lo ∧ p.lo ≤ p.hi ∧ p.hi ≤ hi) : Span lo hi w w' := ⟨h.os, h.tape, h.output, h.size, fun k hk hn => h.block k hk fun p hp => by have := hin p hp; omega⟩

/-- How far window p moves the marks on. -/
def numY (p : WinY) : Int := (p.l.length : Int) + 2 * (lens p.l : Int)
def markP (k : Int) (p : WinY) : WinY := { p with l := markedI k p.l }
def kAt : Int → Nat → List WinY → Int
  | k, 0, _ => k
  | k, _, [] => k
  | k, j + 1, p :: t => kAt (k + numY p) j t
def mixY : Int → Nat → List WinY → List WinY
  | _, 0, L => L
  | _, _, [] => []
  | k, j + 1, p :: t => markP k p :: mixY (k + numY p) j t
theorem mixY_len : ∀ (k : Int) (j : Nat) (L : List WinY), (mixY k j L).length = L.length
  | _, 0, _ => by simp [mixY]
  | _, _ + 1, [] => by simp [mixY]
  | k, j + 1, p :: t => by simp [mixY, mixY_len _ j t]
theorem kAt_step : ∀ (k : Int) (j : Nat) (L : List WinY) (h : j < L.length), kAt k (j + 1) L = kAt k j L + numY L[j]
  | k, 0, p :: t, _ => by simp [kAt]
  | k, j + 1, p :: t, h => by
    have := kAt_step (k + numY p) j t (by simpa using h)
    simpa [kAt] using this
theorem mixY_at : ∀ (k : Int) (j : Nat) (L : List WinY) (i : Nat) (h : i < (mixY k j L).length) (h' : i < L.length), (mixY k j L)[i] = if i < j then markP (kAt k i L) L[i] else L[i]
  | k, 0, L, i, h, h' => by simp [mixY]
  | k, j + 1, [], i, h, h' => by simp at h'
  | k, j + 1, p :: t, 0, h, h' => by simp [mixY, kAt]
  | k, j + 1, p :: t, i + 1, h, h' => by
    have := mixY_at (k + numY p) j t i (by simpa [mixY] using h) (by simpa using h')
    simp only [mixY, List.getElem_cons_succ, this, kAt, Nat.add_lt_add_iff_right]
theorem mixY_step (k : Int) (j : Nat) (L : List WinY) (h : j < L.length) : mixY k (j + 1) L = (mixY k j L).set j (markP (kAt k j L) L[j]) := by
  apply List.ext_getElem
  · rw [List.length_set, mixY_len, mixY_len]
  · intro i h1 h2
    have hi : i < L.length := by rw [mixY_len] at h1; exact h1
    rw [List.getElem_set, mixY_at k (j + 1) L i h1 hi]
    by_cases e : j = i
    · subst e
      simp
    · rw [if_neg e, mixY_at k j L i (by rw [mixY_len]; exact hi) hi]
      by_cases e2 : i < j
      · rw [if_pos e2, if_pos (by omega)]
      · rw [if_neg e2, if_neg (by omega)]
theorem kAt_le {L : List WinY} (hL : ∀ p ∈ L, StampsP p.l) : ∀ (j : Nat) (k : Int), j ≤ L.length → k ≤ kAt k j L ∧ kAt k j L ≤ k + 125 * (j : Int) := by
  intro j
  induction j with
  | zero => intro k _; simp [kAt]
  | succ j ih =>
    intro k hj
    have h1 := ih k (by omega)
    have h2 := hL L[j] (List.getElem_mem (by omega))
    have h3 := h2.lens
    have h4 := h2.1
    rw [kAt_step k j L (by omega)]
    unfold numY
    omega

/-- One window's contents turned. -/
theorem YW.turn {w w' : World} {lo hi t : Nat} {L : List WinY} (h : YW w lo hi t L) {j : Nat} (hj : j < L.length) {q : WinY} (hq : q.v = L[j].v ∧ q.lo = L[j].lo ∧ q.hi = L[j].hi) (hs : Span L[j].lo L[j].hi w w') (hn : ∃ a c, q.v = .slice a q.l.length c ∧ q.l.length ≤ c ∧ SafeI w' q.lo q.hi a q.l) : YW w' lo hi t (L.set j q) := by
  have hm := List.getElem_mem hj
  have hd := List.pairwise_iff_getElem.1 h.dis
  have hset : ∀ i, (hi : i < (L.set j q).length) → ∃ hi' : i < L.length, (L.set j q)[i].v = L[i].v ∧ (L.set j q)[i].lo = L[i].lo ∧ (L.set j q)[i].hi = L[i].hi := fun i hi => by
    have hi' : i < L.length := by simpa using hi
    refine ⟨hi', ?_⟩
    rw [List.getElem_set]
    split
    · rename_i e; subst e; exact hq
    · exact ⟨rfl, rfl, rfl⟩
  refine ⟨Nat.lt_of_lt_of_le h.lt hs.size, fun k hk => ?_, fun p hp => ?_, fun p hp => ?_, fun p hp => ?_, ?_⟩
  · obtain ⟨hk', e1, _, _⟩ := hset k hk
    rw [e1, World.cell?_of_block (hs.block t h.lt (h.far _ hm))]
    exact h.cell k hk'
  · obtain ⟨i, hi, rfl⟩ := List.mem_iff_getElem.1 hp
    have hi' : i < L.length := by simpa using hi
    rw [List.getElem_set]
    split
    · exact hn
    · rename_i e
      obtain ⟨a, c, h1, h2, h3⟩ := h.at_ L[i] (List.getElem_mem hi')
      refine ⟨a, c, h1, h2, h3.span hs ?_⟩
      rcases Nat.lt_or_gt_of_ne e with h4 | h4
      · exact (hd j i hj hi' h4).symm
      · exact hd i j hi' hj h4
  · obtain ⟨i, hi, rfl⟩ := List.mem_iff_getElem.1 hp
    obtain ⟨hi', _, e2, e3⟩ := hset i hi
    rw [e2, e3]
    exact h.far _ (List.getElem_mem hi')
  · obtain ⟨i, hi, rfl⟩ := List.mem_iff_getElem.1 hp
    obtain ⟨hi', _, e2, e3⟩ := hset i hi
    rw [e2, e3]
    exact h.in_ _ (List.getElem_mem hi')
  · rw [List.pairwise_iff_getElem]
    intro a b ha hb hab
    obtain ⟨ha', _, e2, e3⟩ := hset a ha
    obtain ⟨hb', _, f2, f3⟩ := hset b hb
    rw [e2, e3, f2, f3]
    exact hd a b ha' hb' hab
theorem YW.row {w : World} {lo hi t : Nat} {L : List WinY} (h : YW w lo hi t L) : RowW w (some ⟨t, 0, none⟩) (L.map (·.l)) := fun k hk => by
  have hk' : k < L.length := by simpa using hk
  obtain ⟨a, c, h1, h2, h3⟩ := h.at_ L[k] (List.getElem_mem hk')
  exact ⟨t, 0, rfl, h.lt, a, c, by rw [Nat.zero_add, h.cell k hk', h1]; simp, by simpa using h2, by simpa using h3.row⟩

set_option maxHeartbeats 800000 in
theorem markYW_any (t cap lo hi : Nat) (L : List WinY) (k : Int) (w : World) (h6 : L.length ≤ 6) (hL : ∀ p ∈ L, StampsP p.l) (hk0 : 0 ≤ k) (hk1 : k ≤ 1000000) (h : YW w lo hi t L) :
    Calls Tryz.prog 58 #[.slice (some ⟨t, 0, none⟩) L.length cap, .int .i64 k] w fun e w' => e = .returned (.int .i64 (kAt k L.length L)) ∧ YW w' lo hi t (mixY k L.length L) ∧ KeepY L w w' := by
  have HL : Hid (∀ p ∈ L, StampsP p.l) := hL
  clear hL
  go_enter Tryz.func58, Tryz.ntmps58
  go_wp2_with fail
  go_loopw [1, 5] (fun kv i wr => ∃ j : Nat, j ≤ L.length ∧ i = .int .i64 j ∧ kv = .int .i64 (kAt k j L) ∧ YW wr lo hi t (mixY k j L) ∧ KeepY L w wr) (fun _ i _ => L.length - (intOf i).toNat)
  case atStart => exact ⟨0, Nat.zero_le _, rfl, by simp [kAt], by simpa [mixY] using h, KeepY.refl _ _⟩
  case round =>
    clear h
    obtain ⟨j, hj, rfl, rfl, hy, hkeep⟩ := hrel
    by_cases hlt : j < L.length
    · have hjm : j < (mixY k j L).length := by rw [mixY_len]; exact hlt
      have ej : (mixY k j L)[j] = L[j] := by rw [mixY_at k j L j hjm hlt, if_neg (by omega)]
      have c1 := hy.cell j hjm
      obtain ⟨a, c, e1, e2, e3⟩ := hy.at_ _ (List.getElem_mem hjm)
      rw [e1] at c1
      rw [ej] at c1 e1 e2 e3
      have hsp := HL.out L[j] (List.getElem_mem hlt)
      have hb := kAt_le HL.out j k hj
      have hb2 := kAt_le HL.out (j + 1) k (by omega)
      rw [kAt_step k j L hlt] at hb2
      unfold numY at hb2
      have j0 : (0 : Int) ≤ (j : Int) := by omega
      have j1 : (j : Int) < (L.length : Int) := by omega
      obtain ⟨kj, hkj⟩ : ∃ kj, kj = kAt k j L := ⟨_, rfl⟩
      rw [← hkj] at hb hb2
      have HKJ : Hid (kj = kAt k j L) := hkj
      rw [← hkj]
      have hm := markSafeI_any a c L[j].lo L[j].hi L[j].l kj wr hsp.small (by omega) (by omega) e3
      have HN : Hid (kAt k (j + 1) L = kj + (L[j].l.length : Int) + 2 * (lens L[j].l : Int)) := by unfold Hid; rw [kAt_step k j L hlt, ← hkj]; unfold numY; omega
      have HE1 : Hid (L[j].v = .slice a L[j].l.length c) := e1
      clear hkj e1 hsp hb2
      go_wp2_with fail
      refine hm.mono ?_
      rintro e w1 ⟨rfl, hs1, s1⟩
      have hy1 := hy.turn hjm (q := markP (kAt k j L) L[j]) (by rw [ej]; exact ⟨rfl, rfl, rfl⟩) (by rw [ej]; exact s1) ⟨a, c, by show L[j].v = .slice a (markedI (kAt k j L) L[j].l).length c; rw [markedI_length]; exact HE1.out, by show (markedI (kAt k j L) L[j].l).length ≤ c; rw [markedI_length]; exact e2, by rw [← HKJ.out]; exact hs1⟩
      rw [← mixY_step k j L hlt] at hy1
      go_wp2_with fail
      exact ⟨⟨j + 1, by omega, by go_num, by rw [HN.out], hy1, hkeep.trans (KeepY.of_span (List.getElem_mem hlt) s1)⟩, by simp [intOf]; omega⟩
    · obtain rfl : j = L.length := by omega
      go_wp2_with fail
      go_ret
      exact ⟨rfl, hy, hkeep⟩

set_option maxHeartbeats 800000 in
theorem heldYW_any (a : Option Addr) (cap : Nat) (L : List WinY) (k : Int) (w : World) (h6 : L.length ≤ 6) (hL : ∀ p ∈ L, StampsP p.l) (hk0 : 0 ≤ k) (hk1 : k ≤ 1000000) (hr : RowW w a ((mixY k L.length L).map (·.l))) :
    Calls Tryz.prog 62 #[.slice a L.length cap, .int .i64 k] w fun e w' => e = .returned (.int .i64 (kAt k L.length L)) ∧ Below w.heap.size w w' := by
  have HL : Hid (∀ p ∈ L, StampsP p.l) := hL
  clear hL
  go_enter Tryz.func62, Tryz.ntmps62
  go_wp2_with fail
  go_loopw [1, 5] (fun kv i wr => ∃ j : Nat, j ≤ L.length ∧ i = .int .i64 j ∧ kv = .int .i64 (kAt k j L) ∧ Below w.heap.size w wr) (fun _ i _ => L.length - (intOf i).toNat)
  case atStart => exact ⟨0, Nat.zero_le _, rfl, by simp [kAt], Below.refl _ _⟩
  case round =>
    obtain ⟨j, hj, rfl, rfl, hb⟩ := hrel
    by_cases hlt : j < L.length
    · have hjm : j < ((mixY k L.length L).map (·.l)).length := by rw [List.length_map, mixY_len]; exact hlt
      obtain ⟨b, o, rfl, hblt, s1, t1, c1, hc1, hri⟩ := hr.below hb j hjm
      have ej : ((mixY k L.length L).map (·.l))[j] = markedI (kAt k j L) L[j].l := by
        rw [List.getElem_map, mixY_at k L.length L j (by rw [mixY_len]; exact hlt) hlt, if_pos hlt]
        rfl
      rw [ej] at c1 hc1 hri
      rw [markedI_length] at c1 hc1
      have hsp := HL.out L[j] (List.getElem_mem hlt)
      have hbd := kAt_le HL.out j k hj
      have hb2 := kAt_le HL.out (j + 1) k (by omega)
      rw [kAt_step k j L hlt] at hb2
      unfold numY at hb2
      have j0 : (0 : Int) ≤ (j : Int) := by omega
      have j1 : (j : Int) < (L.length : Int) := by omega
      obtain ⟨kj, hkj⟩ : ∃ kj, kj = kAt k j L := ⟨_, rfl⟩
      rw [← hkj] at hbd hb2 hri
      rw [← hkj]
      have hm := heldItemS_any s1 t1 L[j].l kj wr hsp.small.1 (by omega) (by omega) hsp.small.2 hri
      have HN : Hid (kAt k (j + 1) L = kj + (L[j].l.length : Int) + 2 * (lens L[j].l : Int)) := by unfold Hid; rw [kAt_step k j L hlt, ← hkj]; unfold numY; omega
      clear hkj hsp ej
      go_wp2_with fail
      refine hm.mono ?_
      rintro e w1 ⟨rfl, b1⟩
      have hnn : ¬ (kj + (L[j].l.length : Int) + 2 * (lens L[j].l : Int)) < 0 := by omega
      go_wp2_with fail
      exact ⟨⟨j + 1, by omega, by go_num, by rw [HN.out], hb.trans (b1.mono hb.size)⟩, by simp [intOf]; omega⟩
    · obtain rfl : j = L.length := by omega
      go_wp2_with fail
      go_ret
      exact ⟨rfl, hb⟩

end Go.Proofs.YtpfhegengmlkmacGreatDoor
/- Walk: impl.GatherNew. -/
namespace Go.Proofs.YtpfhegengmlkmacGreatDoor
open Go.RowKit Go.BigFrame
set_option maxRecDepth 100000

/-- A gather to which nothing has come. -/
def newG (ins : List ByteArray) : GatL := ⟨ins, List.replicate ins.length [], []⟩
/-- What GatherNew answers. -/
def NewE (w w' : World) (ins : List ByteArray) (e : Ending) : Prop := (∃ B v0 v1 L v2, w.heap.size ≤ B ∧ e = .returned (.tuple #[.agg #[v0, v1, v2], .bool true]) ∧ InsP ins ∧ GathS w' B v0 ins ∧ GathY w' B v1 L ∧ L.map (·.l) = List.replicate ins.length [] ∧ (∃ a c, v2 = .slice a 0 c)) ∨ (e = .returned (.tuple #[.agg #[.slice none 0 0, .slice none 0 0, .slice none 0 0], .bool false]) ∧ ¬ InsP ins)

set_option maxHeartbeats 1600000 in
theorem implGN_any (a : Option Addr) (cap : Nat) (ins : List ByteArray) (w : World) (hl : ins.length ≤ 1048576) (hc : ins.length ≤ cap) (hc2 : cap ≤ maxLen) (hr : RowS w a ins) (hs : ∀ j, (h : j < ins.length) → ins[j].size ≤ maxLen) :
    Calls Tryz.prog 65 #[.slice a ins.length cap] w fun e w' => NewE w w' ins e ∧ Below w.heap.size w w' := by
  obtain ⟨i0, hi, hz0, hz1, hz2⟩ := info_parts Tryz.infoW
  have hmk : ∀ u : World, (Instr.makeSlice 33 (.int .i64 (ins.length : Int)) (.int .i64 (ins.length : Int))).run Tryz.prog u =
      .ok (.slice (some ⟨u.heap.size, 0, none⟩) ins.length ins.length) (u.alloc (.cells (madeCells #[.slice none 0 0] ins.length) 78)) := fun u => by
    have h := run_make (P := Tryz.prog) u 33 78 i0 (.slice none 0 0) Tryz.underlying33 hi hz0 .i64 .i64 (ins.length : Int) (ins.length : Int) (by omega) (Int.le_refl _) (by rw [hz2]; omega) (by omega)
    simpa [hz1, Value.cells] using h
  have hb0 : Below w.heap.size w (w.alloc (.cells #[.slice none 0 0, .slice none 0 0, .slice none 0 0] 36)) := (Below.refl _ _).alloc (Nat.le_refl _) _
  have tR := tri_new w (.slice none 0 0) (.slice none 0 0) (.slice none 0 0) 36
  go_enter Tryz.func65, Tryz.ntmps65
  go_wp2_with fail
  generalize w.alloc (.cells #[.slice none 0 0, .slice none 0 0, .slice none 0 0] 36) = W0 at *
  refine (insOk_any a cap ins _ hl hc hc2 (hr.below hb0) hs).mono ?_
  rintro e w1 ⟨⟨r, rfl, hr1⟩, rfl⟩
  have HR : Hid (r = true ↔ InsP ins) := hr1
  clear hr1
  cases r with
  | false =>
    have HN : Hid (¬ InsP ins) := fun h => by have := HR.out.2 h; simp at this
    obtain ⟨r0, r1, r2, f0, f1, f2⟩ := id tR
    go_wp2_with fail
    have e0 : (((w1.setCell ⟨w.heap.size, 0, none⟩ (.slice none 0 0)).setCell ⟨w.heap.size, 1, none⟩ (.slice none 0 0)).setCell ⟨w.heap.size, 2, none⟩ (.slice none 0 0)).cell? ⟨w.heap.size, 0, none⟩ = some (.slice none 0 0) := by simp [go_sem, r0]
    have e1 : (((w1.setCell ⟨w.heap.size, 0, none⟩ (.slice none 0 0)).setCell ⟨w.heap.size, 1, none⟩ (.slice none 0 0)).setCell ⟨w.heap.size, 2, none⟩ (.slice none 0 0)).cell? ⟨w.heap.size, 1, none⟩ = some (.slice none 0 0) := by simp [go_sem, r1]
    have e2 : (((w1.setCell ⟨w.heap.size, 0, none⟩ (.slice none 0 0)).setCell ⟨w.heap.size, 1, none⟩ (.slice none 0 0)).setCell ⟨w.heap.size, 2, none⟩ (.slice none 0 0)).cell? ⟨w.heap.size, 2, none⟩ = some (.slice none 0 0) := by simp [go_sem, r2]
    exact bodyPost_ret (v := .tuple #[.agg #[.slice none 0 0, .slice none 0 0, .slice none 0 0], .bool false]) (by simp [results, Tryz.results65, go_sem, e0, e1, e2]) rfl ⟨.inr ⟨rfl, HN.out⟩, ((hb0.setCell (Nat.le_refl _) _).setCell (Nat.le_refl _) _).setCell (Nat.le_refl _) _⟩
  | true =>
    have HP : Hid (InsP ins) := HR.out.1 rfl
    clear HR
    obtain ⟨r0, r1, r2, f0, f1, f2⟩ := id tR
    have bM : Below w1.heap.size w1 (w1.alloc (.cells (madeCells #[.slice none 0 0] ins.length) 78)) := (Below.refl _ _).alloc (Nat.le_refl _) _
    have bG0 : Below (w1.alloc (.cells (madeCells #[.slice none 0 0] ins.length) 78)).heap.size (w1.alloc (.cells (madeCells #[.slice none 0 0] ins.length) 78)) ((w1.alloc (.cells (madeCells #[.slice none 0 0] ins.length) 78)).alloc (.cells #[.slice a ins.length cap, .slice (some ⟨w1.heap.size, 0, none⟩) ins.length ins.length, .slice none 0 0] 36)) := (Below.refl _ _).alloc (Nat.le_refl _) _
    have bG : Below w1.heap.size w1 ((w1.alloc (.cells (madeCells #[.slice none 0 0] ins.length) 78)).alloc (.cells #[.slice a ins.length cap, .slice (some ⟨w1.heap.size, 0, none⟩) ins.length ins.length, .slice none 0 0] 36)) := bM.trans (bG0.mono bM.size)
    have hrw : RowW (w1.alloc (.cells (madeCells #[.slice none 0 0] ins.length) 78)) (some ⟨w1.heap.size, 0, none⟩) (newG ins).wins := fun k hk => by
      have hk' : k < ins.length := by simpa [newG] using hk
      refine ⟨w1.heap.size, 0, rfl, box_lt _ _, none, 0, ?_, by simp [newG], fun j hj => by simp [newG] at hj⟩
      rw [Nat.zero_add, World.cell?_alloc_new]
      simp [newG, madeCells, hk', Nat.mod_one]
    have h6 := HP.out.2.1
    have BG : Below w.heap.size w ((w1.alloc (.cells (madeCells #[.slice none 0 0] ins.length) 78)).alloc (.cells #[.slice a ins.length cap, .slice (some ⟨w1.heap.size, 0, none⟩) ins.length ins.length, .slice none 0 0] 36)) := hb0.trans (bG.mono hb0.size)
    have hfr := freshG_any a (some ⟨w1.heap.size, 0, none⟩) none cap ins.length 0 (newG ins) ((w1.alloc (.cells (madeCells #[.slice none 0 0] ins.length) 78)).alloc (.cells #[.slice a ins.length cap, .slice (some ⟨w1.heap.size, 0, none⟩) ins.length ins.length, .slice none 0 0] 36)) h6 (by simp [newG]) (hr.below BG) (hrw.below bG0) (fun k hk => absurd hk (Nat.not_lt_zero k)) (fun j hj => (HP.out.2.2 j hj).1.2.1) (fun j hj => by
      have e : (newG ins).wins[j] = [] := by simp [newG]
      rw [e]
      exact ⟨by simp, fun i hi => by simp at hi, fun i hi => by simp at hi⟩) ⟨by simp [newG], fun j hj => by simp [newG] at hj, fun j hj => by simp [newG] at hj⟩
    simp only [newG, List.length_replicate, List.length_nil] at hfr
    go_wp2_with fail
    refine hfr.mono ?_
    rintro e w2 ⟨⟨B, v0, v1, L, gm, cm, hB, rfl, hg0, hg1, hLL, hfar, hgm, hgB, _, hom⟩, b2⟩
    have hLL' : L.map (·.l) = List.replicate ins.length [] := hLL
    obtain ⟨sia, sic, rfl, _⟩ := hg0.shape
    obtain ⟨swa, swc, rfl, _, _⟩ := hg1.row
    have tR2 := (tR.keep bG).keep b2
    have zB : w.heap.size < B := by have h1 : w.heap.size < w1.heap.size := block_lt_of_cell r0; have := bG.size; omega
    have B2 : Below w.heap.size w w2 := BG.trans (b2.mono BG.size)
    have HLL : Hid (L.map (·.l) = List.replicate ins.length []) := hLL'
    clear r0 r1 r2 f0 f1 f2 hLL hLL' hfr
    obtain ⟨r0, r1, r2, f0, f1, f2⟩ := id tR2
    go_wp2_with fail
    have e0 : (((w2.setCell ⟨w.heap.size, 0, none⟩ (.slice sia ins.length sic)).setCell ⟨w.heap.size, 1, none⟩ (.slice swa L.length swc)).setCell ⟨w.heap.size, 2, none⟩ (.slice (some ⟨gm, 0, none⟩) 0 cm)).cell? ⟨w.heap.size, 0, none⟩ = some (.slice sia ins.length sic) := by simp [go_sem, r0]
    have e1 : (((w2.setCell ⟨w.heap.size, 0, none⟩ (.slice sia ins.length sic)).setCell ⟨w.heap.size, 1, none⟩ (.slice swa L.length swc)).setCell ⟨w.heap.size, 2, none⟩ (.slice (some ⟨gm, 0, none⟩) 0 cm)).cell? ⟨w.heap.size, 1, none⟩ = some (.slice swa L.length swc) := by simp [go_sem, r1]
    have e2 : (((w2.setCell ⟨w.heap.size, 0, none⟩ (.slice sia ins.length sic)).setCell ⟨w.heap.size, 1, none⟩ (.slice swa L.length swc)).setCell ⟨w.heap.size, 2, none⟩ (.slice (some ⟨gm, 0, none⟩) 0 cm)).cell? ⟨w.heap.size, 2, none⟩ = some (.slice (some ⟨gm, 0, none⟩) 0 cm) := by simp [go_sem, r2]
    have g1 : GathS (((w2.setCell ⟨w.heap.size, 0, none⟩ (.slice sia ins.length sic)).setCell ⟨w.heap.size, 1, none⟩ (.slice swa L.length swc)).setCell ⟨w.heap.size, 2, none⟩ (.slice (some ⟨gm, 0, none⟩) 0 cm)) B (.slice sia ins.length sic) ins := own_farY (own_farY (own_farY (show World.ownsRow _ _ _ _ _ _ _ from hg0) zB 0 _) zB 1 _) zB 2 _
    have g2 := ((hg1.set zB 0 (.slice sia ins.length sic)).set zB 1 (.slice swa L.length swc)).set zB 2 (.slice (some ⟨gm, 0, none⟩) 0 cm)
    exact bodyPost_ret (v := .tuple #[.agg #[.slice sia ins.length sic, .slice swa L.length swc, .slice (some ⟨gm, 0, none⟩) 0 cm], .bool true]) (by simp [results, Tryz.results65, go_sem, e0, e1, e2]) rfl ⟨.inl ⟨B, _, _, L, _, by omega, rfl, HP.out, g1, g2, HLL.out, ⟨_, _, rfl⟩⟩, ((B2.setCell (Nat.le_refl _) _).setCell (Nat.le_refl _) _).setCell (Nat.le_refl _) _⟩

end Go.Proofs.YtpfhegengmlkmacGreatDoor
/- Walk: spec.GatherNew. -/
namespace Go.Proofs.YtpfhegengmlkmacGreatDoor
open Go.RowKit Go.BigFrame
set_option maxRecDepth 100000

theorem own_ne {w : World} {B e size n q : Nat} {v : Value} {xs : List Value} (h : w.ownsRow B e size v n xs) (hq : v.ownBlock ≠ some q) (i : Nat) (z : Value) : (w.setCell ⟨q, i, none⟩ z).ownsRow B e size v n xs := by
  obtain ⟨hl, h | ⟨g, cap, cur, hv, hgB, hh, r⟩⟩ := h
  · exact ⟨hl, .inl h⟩
  · refine ⟨hl, .inr ⟨g, cap, cur, hv, hgB, (Below.heap_setCell _ _ _ _ ?_).trans hh, r⟩⟩
    intro e
    exact hq (by rw [hv]; simp only at e; rw [e]; rfl)
theorem GathY.lower {w : World} {B B' : Nat} {v : Value} {L : List WinY} (h : GathY w B v L) (hB : B' ≤ B) : GathY w B' v L := ⟨own_lower h.own hB, fun p hp => ⟨(h.at_ p hp).1, Nat.le_trans hB (h.at_ p hp).2.1, (h.at_ p hp).2.2⟩, h.far, h.dis⟩
theorem replicate_snoc (n : Nat) : List.replicate n ([] : List ItemL) ++ [[]] = List.replicate (n + 1) [] := by rw [List.replicate_succ']

set_option maxHeartbeats 3200000 in
theorem specGN_any (a : Option Addr) (cap : Nat) (ins : List ByteArray) (w : World) (hl : ins.length ≤ 1048576) (hr : RowS w a ins) (hs : ∀ j, (h : j < ins.length) → ins[j].size ≤ maxLen) :
    Calls Tryz.prog 64 #[.slice a ins.length cap] w fun e w' => NewE w w' ins e ∧ Below w.heap.size w w' := by
  have hb0 : Below w.heap.size w (w.alloc (.cells #[.slice none 0 0, .slice none 0 0, .slice none 0 0] 36)) := (Below.refl _ _).alloc (Nat.le_refl _) _
  have tR := tri_new w (.slice none 0 0) (.slice none 0 0) (.slice none 0 0) 36
  go_enter Tryz.func64, Tryz.ntmps64
  go_wp2_with fail
  generalize w.alloc (.cells #[.slice none 0 0, .slice none 0 0, .slice none 0 0] 36) = W0 at *
  refine (l4Ins_any a cap ins _ hl (hr.below hb0) hs).mono ?_
  rintro e w1 ⟨⟨r, rfl, hr1⟩, b1⟩
  have HR : Hid (r = true ↔ InsP ins) := hr1
  clear hr1
  have B1 : Below w.heap.size w w1 := hb0.trans (b1.mono hb0.size)
  replace tR := tR.keep b1
  cases r with
  | false =>
    have HN : Hid (¬ InsP ins) := fun h => by have := HR.out.2 h; simp at this
    obtain ⟨r0, r1, r2, f0, f1, f2⟩ := id tR
    go_wp2_with fail
    have e0 : (((w1.setCell ⟨w.heap.size, 0, none⟩ (.slice none 0 0)).setCell ⟨w.heap.size, 1, none⟩ (.slice none 0 0)).setCell ⟨w.heap.size, 2, none⟩ (.slice none 0 0)).cell? ⟨w.heap.size, 0, none⟩ = some (.slice none 0 0) := by simp [go_sem, r0]
    have e1 : (((w1.setCell ⟨w.heap.size, 0, none⟩ (.slice none 0 0)).setCell ⟨w.heap.size, 1, none⟩ (.slice none 0 0)).setCell ⟨w.heap.size, 2, none⟩ (.slice none 0 0)).cell? ⟨w.heap.size, 1, none⟩ = some (.slice none 0 0) := by simp [go_sem, r1]
    have e2 : (((w1.setCell ⟨w.heap.size, 0, none⟩ (.slice none 0 0)).setCell ⟨w.heap.size, 1, none⟩ (.slice none 0 0)).setCell ⟨w.heap.size, 2, none⟩ (.slice none 0 0)).cell? ⟨w.heap.size, 2, none⟩ = some (.slice none 0 0) := by simp [go_sem, r2]
    exact bodyPost_ret (v := .tuple #[.agg #[.slice none 0 0, .slice none 0 0, .slice none 0 0], .bool false]) (by simp [results, Tryz.results64, go_sem, e0, e1, e2]) rfl ⟨.inr ⟨rfl, HN.out⟩, ((B1.setCell (Nat.le_refl _) _).setCell (Nat.le_refl _) _).setCell (Nat.le_refl _) _⟩
  | true =>
    have HP : Hid (InsP ins) := HR.out.1 rfl
    clear HR
    have h1 := HP.out.1
    have h6 := HP.out.2.1
    obtain ⟨bn, on, rfl, hbn, _⟩ := hr 0 (by omega)
    obtain ⟨i0, hi, hz0, hz1, hz2⟩ := info_parts Tryz.infoS
    have bE : Below w1.heap.size w1 (w1.alloc (.cells #[] 9)) := (Below.refl _ _).alloc (Nat.le_refl _) _
    have BE : Below w.heap.size w (w1.alloc (.cells #[] 9)) := B1.trans (bE.mono B1.size)
    have hnews : ∀ j u, (ins.map Value.string)[j]? = some u → (w1.alloc (.cells #[] 9)).cell? ((⟨bn, on, none⟩ : Addr).add j) = some u := fun j u hj => by
      have hj' : j < ins.length := by
        rcases Nat.lt_or_ge j ins.length with h | h
        · exact h
        · rw [List.getElem?_eq_none (by simpa using h)] at hj; cases hj
      obtain ⟨b, o, e, _, hc⟩ := hr.below BE j hj'
      cases e
      have ea : (⟨bn, on, none⟩ : Addr).add j = ⟨bn, on + j, none⟩ := by unfold Addr.add; split <;> simp_all
      rw [ea, hc]
      simpa [hj'] using hj
    have hown0 : (w1.alloc (.cells #[] 9)).ownsRow w1.heap.size 9 1 (.slice (some ⟨w1.heap.size, 0, none⟩) 0 0) 0 [] := ⟨rfl, .inr ⟨w1.heap.size, 0, #[], rfl, Nat.le_refl _, heap_alloc_new w1 _, Nat.le_refl _, Nat.zero_le _, rfl, rfl⟩⟩
    go_wp2_with (first | (at_builtin; refine wpList_append_lies _ rfl _ _ 22 rfl w1.heap.size 9 i0 (.string .empty) 1 16 Tryz.underlying22 hi hz0 hz1 hz2 rfl (by decide) _ 0 [] rfl hown0 ⟨bn, on, none⟩ ins.length cap (ins.map Value.string) rfl (by simp) hnews (by simp [Value.oneCell']) (by omega) (by unfold maxLen; omega) (by omega) (by simp) _ rfl ?_; intro g3 c3 w3 hown3 hgr3 _ _))
    simp only [Nat.zero_add, List.nil_append] at hown3 ⊢
    have hgs3 : GathS w3 w1.heap.size (.slice (some ⟨g3, 0, none⟩) ins.length c3) ins := hown3
    have b3 : Below w1.heap.size w1 w3 := bE.grown hgr3 (by simp) (fun q hq => by cases hq; exact Nat.le_refl _)
    have hg3 : g3 < w3.heap.size := by have := World.ownsRow.lt hown3 g3 rfl; exact this.2
    have bT : Below w3.heap.size w3 (w3.alloc (.cells #[.slice (some ⟨g3, 0, none⟩) ins.length c3, .slice none 0 0, .slice none 0 0] 36)) := (Below.refl _ _).alloc (Nat.le_refl _) _
    have tT := tri_new w3 (.slice (some ⟨g3, 0, none⟩) ins.length c3) (.slice none 0 0) (.slice none 0 0) 36
    have tR3 := (tR.keep b3).keep bT
    have hgsT := hgs3.keep bT
    have B3 : Below w.heap.size w w3 := B1.trans (b3.mono B1.size)
    have BT : Below w.heap.size w (w3.alloc (.cells #[.slice (some ⟨g3, 0, none⟩) ins.length c3, .slice none 0 0, .slice none 0 0] 36)) := B3.trans (bT.mono B3.size)
    have zR : w.heap.size < w1.heap.size := block_lt_of_cell tR.c0
    have z13 := b3.size
    clear hown3 hgr3 hown0 hnews bE BE
    go_wp2_with fail
    generalize w3.alloc (.cells #[.slice (some ⟨g3, 0, none⟩) ins.length c3, .slice none 0 0, .slice none 0 0] 36) = WT at *
    have zT : w3.heap.size < WT.heap.size := block_lt_of_cell tT.c0
    go_loopw [5] (fun i wr => ∃ (k : Nat) (vw : Value) (L : List WinY), k ≤ ins.length ∧ i = .int .i64 k ∧ GathY wr (w3.heap.size + 1) vw L ∧ Hid (L.map (·.l) = List.replicate k []) ∧ GathS wr w1.heap.size (.slice (some ⟨g3, 0, none⟩) ins.length c3) ins ∧ Tri wr w.heap.size (.slice none 0 0) (.slice none 0 0) (.slice none 0 0) ∧ Tri wr w3.heap.size (.slice (some ⟨g3, 0, none⟩) ins.length c3) vw (.slice none 0 0) ∧ w3.heap.size + 1 ≤ wr.heap.size ∧ Below w.heap.size w wr) (fun i _ => ins.length - (intOf i).toNat)
    case atStart => exact ⟨0, _, [], Nat.zero_le _, rfl, gathY_none _ _, by simp [Hid], hgsT, tR3, tT, zT, BT⟩
    case round =>
      clear tT tR3 hgsT BT
      obtain ⟨k, vw, L, hk, rfl, hgy, HL, hgs, tR', tT, hsz, hbl⟩ := hrel
      have zz := hbl.size
      by_cases hlt : k < ins.length
      · have k0 : (0 : Int) ≤ (k : Int) := by omega
        have k1 : (k : Int) < (ins.length : Int) := by omega
        have q0 := tT.c1
        have hbx : Below wr.heap.size wr (wr.alloc (.cells #[.slice none 0 0] 78)) := (Below.refl _ _).alloc (Nat.le_refl _) _
        have hlL : L.length ≤ 1048576 := by have := congrArg List.length HL.out; rw [List.length_map, List.length_replicate] at this; omega
        have hin : (WinY.mk [] (.slice none 0 0) wr.heap.size wr.heap.size).In (wr.alloc (.cells #[.slice none 0 0] 78)) (w3.heap.size + 1) := ⟨⟨none, 0, rfl, Nat.le_refl _, .inl rfl⟩, hsz, Nat.le_refl _, hbx.size⟩
        have hfar : ∀ q, q < w3.heap.size + 1 → some q ≠ vw.ownBlock := fun q hq e => by have := own_from hgy.own q e.symm; omega
        go_wp2_with (first | (at_builtin; refine wpList_plain rfl (fun K hK => ?_); refine wp_append_win _ _ rfl (w3.heap.size + 1) vw L rfl (hgy.keep hbx) (by have := hbx.size; omega) wr.heap.size (WinY.mk [] (.slice none 0 0) wr.heap.size wr.heap.size) (fun q hq => (hgy.at_ q hq).2.2.2) hin (fun q hq => .inl (World.ownsRow.lt hgy.own q hq).2) rfl (by simp [go_sem]) hlL ?_; intro vw' w5 hgy5 hgr5 hloc5; obtain ⟨vwa, vwc, rfl, _, _⟩ := hgy5.row; have tT5 := (tT.keep hbx).grown hgr5 (hfar _ (by omega)); have q5 := tT5.c1; have q6 := tT5.f1; refine hK _ _ ?_))
        have tR5 := (tR'.keep hbx).grown hgr5 (hfar _ (by omega))
        have hgs5 : GathS w5 w1.heap.size (.slice (some ⟨g3, 0, none⟩) ins.length c3) ins := World.ownsRow.kept (hgs.keep hbx) hgr5 (own_types (show World.ownsRow _ _ _ _ _ _ _ from hgs) hgy.own str_unlike)
        have B5 : Below w.heap.size w w5 := (hbl.trans (hbx.mono hbl.size)).grown hgr5 (by have := hbx.size; omega) (fun q hq => by have := own_from hgy.own q hq; omega)
        have z5 := hgr5.size
        have z6 := hbx.size
        have HL5 : Hid ((L ++ [WinY.mk [] (.slice none 0 0) wr.heap.size wr.heap.size]).map (·.l) = List.replicate (k + 1) []) := by
          unfold Hid
          rw [List.map_append, HL.out]
          exact replicate_snoc k
        simp only [List.length_append, List.length_cons, List.length_nil, Nat.zero_add] at hgy5
        exact ⟨⟨k + 1, _, _, by omega, by go_num, hgy5.set (by omega) 1 _, HL5, own_ne hgs5 (by simp [Value.ownBlock]; omega) 1 _, tR5.far (by omega) 1 _, tT5.set1 _, by simp only [World.size_setCell]; omega, B5.setCell (by simp only; omega) _⟩, by simp [intOf]; omega⟩
      · obtain rfl : k = ins.length := by omega
        obtain ⟨d0, d1, d2, _, _, _⟩ := id tT
        obtain ⟨r0, r1, r2, f0, f1, f2⟩ := id tR'
        obtain ⟨swa, swc, rfl, _, _⟩ := hgy.row
        go_wp2_with fail
        have e0 : (((wr.setCell ⟨w.heap.size, 0, none⟩ (.slice (some ⟨g3, 0, none⟩) ins.length c3)).setCell ⟨w.heap.size, 1, none⟩ (.slice swa L.length swc)).setCell ⟨w.heap.size, 2, none⟩ (.slice none 0 0)).cell? ⟨w.heap.size, 0, none⟩ = some (.slice (some ⟨g3, 0, none⟩) ins.length c3) := by simp [go_sem, r0]
        have e1 : (((wr.setCell ⟨w.heap.size, 0, none⟩ (.slice (some ⟨g3, 0, none⟩) ins.length c3)).setCell ⟨w.heap.size, 1, none⟩ (.slice swa L.length swc)).setCell ⟨w.heap.size, 2, none⟩ (.slice none 0 0)).cell? ⟨w.heap.size, 1, none⟩ = some (.slice swa L.length swc) := by simp [go_sem, r1]
        have e2 : (((wr.setCell ⟨w.heap.size, 0, none⟩ (.slice (some ⟨g3, 0, none⟩) ins.length c3)).setCell ⟨w.heap.size, 1, none⟩ (.slice swa L.length swc)).setCell ⟨w.heap.size, 2, none⟩ (.slice none 0 0)).cell? ⟨w.heap.size, 2, none⟩ = some (.slice none 0 0) := by simp [go_sem, r2]
        have g1 : GathS (((wr.setCell ⟨w.heap.size, 0, none⟩ (.slice (some ⟨g3, 0, none⟩) ins.length c3)).setCell ⟨w.heap.size, 1, none⟩ (.slice swa L.length swc)).setCell ⟨w.heap.size, 2, none⟩ (.slice none 0 0)) w1.heap.size (.slice (some ⟨g3, 0, none⟩) ins.length c3) ins := own_farY (own_farY (own_farY (show World.ownsRow _ _ _ _ _ _ _ from hgs) zR 0 _) zR 1 _) zR 2 _
        have g2 := (((hgy.lower (show w1.heap.size ≤ w3.heap.size + 1 by omega)).set zR 0 (.slice (some ⟨g3, 0, none⟩) ins.length c3)).set zR 1 (.slice swa L.length swc)).set zR 2 (.slice none 0 0)
        exact bodyPost_ret (v := .tuple #[.agg #[.slice (some ⟨g3, 0, none⟩) ins.length c3, .slice swa L.length swc, .slice none 0 0], .bool true]) (by simp [results, Tryz.results64, go_sem, e0, e1, e2]) rfl ⟨.inl ⟨w1.heap.size, _, _, L, _, by omega, rfl, HP.out, g1, g2, HL.out, ⟨_, _, rfl⟩⟩, ((hbl.setCell (Nat.le_refl _) _).setCell (Nat.le_refl _) _).setCell (Nat.le_refl _) _⟩

end Go.Proofs.YtpfhegengmlkmacGreatDoor
/- A new gather's answer: marked, and held. -/
namespace Go.Proofs.YtpfhegengmlkmacGreatDoor
open Go.RowKit Go.BigFrame
set_option maxRecDepth 100000

/-- Block 'g' begins with n empty windows. -/
def WinE (w : World) (g n : Nat) : Prop := ∃ m f, w.rowIs g 78 m f ∧ n ≤ m ∧ ∀ j, j < n → ∃ s c, f j = .slice s 0 c
theorem WinE.lt {w : World} {g n : Nat} (h : WinE w g n) : g < w.heap.size := by
  obtain ⟨m, f, h, _⟩ := h
  exact h.lt
theorem WinE.span {w w' : World} {g n lo hi : Nat} (h : WinE w g n) (hs : Span lo hi w w') (hd : g < lo ∨ hi ≤ g) : WinE w' g n := by
  have hlt := h.lt
  obtain ⟨m, f, h, hf⟩ := h
  exact ⟨m, f, h.of_block (hs.block g hlt hd), hf⟩
theorem WinE.below {w w' : World} {g n : Nat} (h : WinE w g n) (hb : Below w.heap.size w w') : WinE w' g n := by
  have hlt := h.lt
  obtain ⟨m, f, h, hf⟩ := h
  exact ⟨m, f, h.of_block (hb.block g hlt), hf⟩
theorem WinE.row {w : World} {g n : Nat} (h : WinE w g n) : RowW w (some ⟨g, 0, none⟩) (List.replicate n []) := fun k hk => by
  have hk' : k < n := by simpa using hk
  have hlt := h.lt
  obtain ⟨m, f, h, hm, hf⟩ := h
  obtain ⟨s, c, e⟩ := hf k hk'
  exact ⟨g, 0, rfl, hlt, s, c, by rw [Nat.zero_add, h.cell (by omega), e]; simp, by simp, fun j hj => by simp at hj⟩
theorem GathY.block {w : World} {B n : Nat} {v : Value} {L : List WinY} (h : GathY w B v L) (hL : L.map (·.l) = List.replicate n []) (h0 : 0 < n) : ∃ g c, v = .slice (some ⟨g, 0, none⟩) n c ∧ B ≤ g ∧ WinE w g n := by
  have hn : L.length = n := by have := congrArg List.length hL; simpa using this
  rcases h.own.2 with ⟨_, e⟩ | ⟨g, cap, cur, e, hB, hh, hnc, hc, hs, ht⟩
  · omega
  · refine ⟨g, cap, by rw [← hn]; exact e, hB, cap * 1, fun i => (cur[i]?).getD undef, ⟨cur, hh, hs, fun i hi => ?_⟩, by omega, fun k hk => ?_⟩
    · have hi' : i < cur.size := by omega
      simp [Array.getElem?_eq_getElem hi']
    · have hk' : k < L.length := by omega
      obtain ⟨⟨a, c, e2, _⟩, _⟩ := h.at_ L[k] (List.getElem_mem hk')
      have e3 : L[k].l = [] := by
        have h4 : (L.map (·.l))[k]? = some [] := by rw [hL]; simp [hk]
        simpa [hk'] using h4
      have h2 : (L.map (·.v))[k]? = some L[k].v := by simp [hk']
      rw [← ht, List.getElem?_take_of_lt (by simp; omega)] at h2
      simp only [Array.getElem?_toList] at h2
      refine ⟨a, c, ?_⟩
      simp only [h2, Option.getD_some]
      rw [e2, e3]
      rfl

/-- An answer of GatherNew: the names and as many empty windows, in blocks between two, or nothing. -/
def SafeN (w : World) (lo hi : Nat) (a0 a1 : Option Addr) (nm : List ByteArray) : Prop := nm = [] ∨ ∃ g t, a0 = some ⟨g, 0, none⟩ ∧ a1 = some ⟨t, 0, none⟩ ∧ lo ≤ g ∧ g < hi ∧ lo ≤ t ∧ t < hi ∧ g ≠ t ∧ StrB w g nm ∧ WinE w t nm.length
theorem SafeN.row {w : World} {lo hi : Nat} {a0 a1 : Option Addr} {nm : List ByteArray} (h : SafeN w lo hi a0 a1 nm) : RowS w a0 nm ∧ RowW w a1 (List.replicate nm.length []) := by
  rcases h with rfl | ⟨g, t, rfl, rfl, _, _, _, _, _, h1, h2⟩
  · exact ⟨fun k hk => absurd hk (Nat.not_lt_zero k), fun k hk => absurd hk (Nat.not_lt_zero k)⟩
  · exact ⟨h1.row, h2.row⟩
theorem SafeN.below {w w' : World} {lo hi : Nat} {a0 a1 : Option Addr} {nm : List ByteArray} (h : SafeN w lo hi a0 a1 nm) (hb : Below w.heap.size w w') : SafeN w' lo hi a0 a1 nm := by
  rcases h with rfl | ⟨g, t, rfl, rfl, h3, h4, h5, h6, h7, h1, h2⟩
  · exact .inl rfl
  · exact .inr ⟨g, t, rfl, rfl, h3, h4, h5, h6, h7, h1.below hb, h2.below hb⟩
theorem SafeN.span {w w' : World} {lo hi lo' hi' : Nat} {a0 a1 : Option Addr} {nm : List ByteArray} (h : SafeN w lo hi a0 a1 nm) (hs : Span lo' hi' w w') (hd : hi ≤ lo' ∨ hi' ≤ lo) : SafeN w' lo hi a0 a1 nm := by
  rcases h with rfl | ⟨g, t, rfl, rfl, h3, h4, h5, h6, h7, h1, h2⟩
  · exact .inl rfl
  · exact .inr ⟨g, t, rfl, rfl, h3, h4, h5, h6, h7, h1.span hs (by omega), h2.span hs (by omega)⟩
/-- Which names are answered. -/
def IsN (ins nm : List ByteArray) (ok : Bool) : Prop := (ok = true ∧ InsP ins ∧ nm = ins) ∨ (ok = false ∧ ¬ InsP ins ∧ nm = [])
theorem IsN.one {ins nm nm' : List ByteArray} {ok ok' : Bool} (h : IsN ins nm ok) (k : IsN ins nm' ok') : nm = nm' ∧ ok = ok' := by
  rcases h with ⟨rfl, h1, rfl⟩ | ⟨rfl, h1, rfl⟩
  · rcases k with ⟨rfl, _, rfl⟩ | ⟨rfl, k1, rfl⟩
    · exact ⟨rfl, rfl⟩
    · exact absurd h1 k1
  · rcases k with ⟨rfl, k1, rfl⟩ | ⟨rfl, _, rfl⟩
    · exact absurd k1 h1
    · exact ⟨rfl, rfl⟩
theorem NewE.safe {w w' : World} {ins : List ByteArray} {e : Ending} (h : NewE w w' ins e) : ∃ nm ok a0 c0 a1 c1 a2 c2, e = .returned (.tuple #[.agg #[.slice a0 nm.length c0, .slice a1 nm.length c1, .slice a2 0 c2], .bool ok]) ∧ IsN ins nm ok ∧ SafeN w' w.heap.size w'.heap.size a0 a1 nm := by
  rcases h with ⟨B, v0, v1, L, v2, hB, rfl, hp, h1, h2, h3, ⟨a2, c2, rfl⟩⟩ | ⟨rfl, hp⟩
  · have hpos : 0 < ins.length := hp.1
    obtain ⟨g, c, rfl, hg, hs⟩ := h1.block hpos
    obtain ⟨t, c', rfl, ht, hw⟩ := h2.block h3 hpos
    have hne : g ≠ t := fun e => by
      have hx := own_types (show World.ownsRow _ _ _ _ _ _ _ from h1) h2.own str_unlike
      rcases hx with hx | hx
      · simp [Value.ownBlock] at hx
      · exact hx (by rw [e]; rfl)
    exact ⟨ins, true, _, c, _, c', a2, c2, rfl, .inl ⟨rfl, hp, rfl⟩, .inr ⟨g, t, rfl, rfl, by omega, hs.lt, by omega, hw.lt, hne, hs, hw⟩⟩
  · exact ⟨[], false, none, 0, none, 0, none, 0, rfl, .inr ⟨rfl, hp, rfl⟩, .inl rfl⟩

set_option maxHeartbeats 800000 in
theorem markWinE_any (a : Option Addr) (cap n : Nat) (k : Int) (w : World) (hn : n ≤ 6) (hk0 : 0 ≤ k) (hk1 : k ≤ 1000000) (hr : RowW w a (List.replicate n [])) :
    Calls Tryz.prog 58 #[.slice a n cap, .int .i64 k] w fun e w' => e = .returned (.int .i64 k) ∧ Below w.heap.size w w' := by
  go_enter Tryz.func58, Tryz.ntmps58
  go_wp2_with fail
  go_loopw [1, 5] (fun kv i wr => ∃ j : Nat, j ≤ n ∧ i = .int .i64 j ∧ kv = .int .i64 k ∧ Below w.heap.size w wr) (fun _ i _ => n - (intOf i).toNat)
  case atStart => exact ⟨0, Nat.zero_le _, rfl, rfl, Below.refl _ _⟩
  case round =>
    obtain ⟨j, hj, rfl, rfl, hb⟩ := hrel
    by_cases hlt : j < n
    · obtain ⟨b, o, rfl, hblt, s1, t1, c1, _, _⟩ := hr.below hb j (by simpa using hlt)
      have e0 : ((List.replicate n ([] : List ItemL))[j]'(by simpa using hlt)).length = 0 := by simp
      rw [e0] at c1
      have j0 : (0 : Int) ≤ (j : Int) := by omega
      have j1 : (j : Int) < (n : Int) := by omega
      have hm := markSafeI_any s1 t1 0 0 [] k wr ⟨by simp, fun i hi => by simp at hi⟩ hk0 (by simp [lens]; omega) (.inl rfl)
      simp only [List.length_nil, lens] at hm
      clear e0
      go_wp2_with fail
      refine hm.mono ?_
      rintro e w1 ⟨rfl, _, s1'⟩
      have b1 : Below wr.heap.size wr w1 := ⟨s1'.os, s1'.tape, s1'.output, s1'.size, fun i hi => s1'.block i hi (by omega)⟩
      go_wp2_with fail
      exact ⟨⟨j + 1, by omega, by go_num, by simp, hb.trans (b1.mono hb.size)⟩, by simp [intOf]; omega⟩
    · go_wp2_with fail
      go_ret
      exact ⟨rfl, hb⟩

set_option maxHeartbeats 800000 in
theorem heldWinE_any (a : Option Addr) (cap n : Nat) (k : Int) (w : World) (hn : n ≤ 6) (hk0 : 0 ≤ k) (hk1 : k ≤ 1000000) (hr : RowW w a (List.replicate n [])) :
    Calls Tryz.prog 62 #[.slice a n cap, .int .i64 k] w fun e w' => e = .returned (.int .i64 k) ∧ Below w.heap.size w w' := by
  go_enter Tryz.func62, Tryz.ntmps62
  go_wp2_with fail
  go_loopw [1, 5] (fun kv i wr => ∃ j : Nat, j ≤ n ∧ i = .int .i64 j ∧ kv = .int .i64 k ∧ Below w.heap.size w wr) (fun _ i _ => n - (intOf i).toNat)
  case atStart => exact ⟨0, Nat.zero_le _, rfl, rfl, Below.refl _ _⟩
  case round =>
    obtain ⟨j, hj, rfl, rfl, hb⟩ := hrel
    by_cases hlt : j < n
    · obtain ⟨b, o, rfl, hblt, s1, t1, c1, _, _⟩ := hr.below hb j (by simpa using hlt)
      have e0 : ((List.replicate n ([] : List ItemL))[j]'(by simpa using hlt)).length = 0 := by simp
      rw [e0] at c1
      have j0 : (0 : Int) ≤ (j : Int) := by omega
      have j1 : (j : Int) < (n : Int) := by omega
      have hm := heldItemS_any s1 t1 [] k wr (by simp) hk0 (by simp [lens]; omega) (fun i hi => by simp at hi) (fun i hi => by simp [markedI] at hi)
      simp only [List.length_nil, lens] at hm
      clear e0
      go_wp2_with fail
      refine hm.mono ?_
      rintro e w1 ⟨rfl, b1⟩
      have he : ((k + ((0 : Nat) : Int) + 2 * ((0 : Nat) : Int)) < 0) = False := by simp; omega
      go_wp2_with fail
      exact ⟨⟨j + 1, by omega, by go_num, by simp, hb.trans (b1.mono hb.size)⟩, by simp [intOf]; omega⟩
    · go_wp2_with fail
      go_ret
      exact ⟨rfl, hb⟩

set_option maxHeartbeats 800000 in
theorem markStringS_none (a : Option Addr) (cap : Nat) (k : Int) (w : World) :
    Calls Tryz.prog 30 #[.slice a 0 cap, .int .i64 k] w fun e w' => e = .returned (.int .i64 k) ∧ w' = w := by
  go_enter Tryz.func30, Tryz.ntmps30
  go_wp2_with fail
  go_loopw [1, 5] (fun kk i wr => i = .int .i64 0 ∧ kk = .int .i64 k ∧ wr = w) (fun _ _ _ => 0)
  case atStart => exact ⟨rfl, rfl, rfl⟩
  case round =>
    obtain ⟨rfl, rfl, rfl⟩ := hrel
    go_wp2_with fail
    go_ret
    exact ⟨rfl, rfl⟩
/-- The names marked, the windows as they were. -/
theorem markN_any (a0 a1 : Option Addr) (cap lo hi : Nat) (nm : List ByteArray) (w : World) (h6 : nm.length ≤ 6) (hs : SafeN w lo hi a0 a1 nm) :
    Calls Tryz.prog 30 #[.slice a0 nm.length cap, .int .i64 1] w fun e w' => e = .returned (.int .i64 (1 + (nm.length : Int))) ∧ SafeN w' lo hi a0 a1 (textsM 1 nm.length) ∧ Span lo hi w w' := by
  rcases hs with rfl | ⟨g, t, rfl, rfl, h3, h4, h5, h7, hne, h1, h2⟩
  · exact (markStringS_none a0 cap 1 w).mono fun e w' ⟨he, hw⟩ => ⟨by rw [he]; simp, .inl rfl, by rw [hw]; exact Span.refl _ _ _⟩
  · refine (markStrB_any g cap nm 1 w (by omega) (by omega) (by omega) h1).mono fun e w' ⟨he, h8, hb⟩ => ⟨he, .inr ⟨g, t, rfl, rfl, h3, h4, h5, h7, hne, h8, ?_⟩, hb.span h3 h4⟩
    rw [textsM_len]
    exact h2.span (hb.span (Nat.le_refl g) (Nat.lt_succ_self g)) (by omega)

set_option maxHeartbeats 800000 in
theorem markGN_any (a0 a1 a2 : Option Addr) (c0 c1 c2 lo hi : Nat) (nm : List ByteArray) (w : World) (h6 : nm.length ≤ 6) (hw : hi ≤ w.heap.size) (hs : SafeN w lo hi a0 a1 nm) :
    Calls Tryz.prog 15 #[.agg #[.slice a0 nm.length c0, .slice a1 nm.length c1, .slice a2 0 c2], .int .i64 1] w fun e w' => e = .returned (.int .i64 (1 + (nm.length : Int))) ∧ SafeN w' lo hi a0 a1 (textsM 1 nm.length) ∧ Span lo hi w w' := by
  have hb0 : Below w.heap.size w (w.alloc (.cells #[.slice a0 nm.length c0, .slice a1 nm.length c1, .slice a2 0 c2] 36)) := (Below.refl _ _).alloc (Nat.le_refl _) _
  have d1 : (w.alloc (.cells #[.slice a0 nm.length c0, .slice a1 nm.length c1, .slice a2 0 c2] 36)).cell? ⟨w.heap.size, 1, none⟩ = some (.slice a1 nm.length c1) := by simp [go_sem]
  have d2 : (w.alloc (.cells #[.slice a0 nm.length c0, .slice a1 nm.length c1, .slice a2 0 c2] 36)).cell? ⟨w.heap.size, 2, none⟩ = some (.slice a2 0 c2) := by simp [go_sem]
  go_enter Tryz.func15, Tryz.ntmps15
  go_wp2_with fail
  generalize w.alloc (.cells #[.slice a0 nm.length c0, .slice a1 nm.length c1, .slice a2 0 c2] 36) = W0 at *
  refine (markN_any a0 a1 c0 lo hi nm _ h6 (hs.below hb0)).mono ?_
  rintro e w1 ⟨rfl, hs1, s1⟩
  have d1' : w1.cell? ⟨w.heap.size, 1, none⟩ = some (.slice a1 nm.length c1) := by rw [World.cell?_of_block (s1.block w.heap.size (block_lt_of_cell d1) (by omega))]; exact d1
  have d2' : w1.cell? ⟨w.heap.size, 2, none⟩ = some (.slice a2 0 c2) := by rw [World.cell?_of_block (s1.block w.heap.size (block_lt_of_cell d1) (by omega))]; exact d2
  have hrw := hs1.row.2
  rw [textsM_len] at hrw
  have z1 : w.heap.size < w1.heap.size := block_lt_of_cell d1'
  clear d1 d2
  go_wp2_with fail
  refine (markWinE_any a1 c1 nm.length (1 + (nm.length : Int)) _ h6 (by omega) (by omega) hrw).mono ?_
  rintro e w2 ⟨rfl, b2⟩
  have d2'' := cell_on b2 z1 d2'
  go_wp2_with fail
  refine (markMarkS_none a2 c2 (1 + (nm.length : Int)) _).mono ?_
  rintro e w3 ⟨rfl, rfl⟩
  go_wp2_with fail
  go_ret
  refine ⟨rfl, hs1.below b2, ?_⟩
  have sA : Span lo hi w W0 := ⟨hb0.os, hb0.tape, hb0.output, hb0.size, fun i hi _ => hb0.block i hi⟩
  have sB : Span lo hi w1 w3 := ⟨b2.os, b2.tape, b2.output, b2.size, fun i hi _ => b2.block i hi⟩
  exact (sA.trans s1).trans sB

set_option maxHeartbeats 800000 in
theorem heldGN_any (a0 a1 a2 : Option Addr) (c0 c1 c2 lo hi n : Nat) (w : World) (h6 : n ≤ 6) (hs : SafeN w lo hi a0 a1 (textsM 1 n)) :
    Calls Tryz.prog 18 #[.agg #[.slice a0 n c0, .slice a1 n c1, .slice a2 0 c2], .int .i64 1] w fun e w' => e = .returned (.int .i64 (1 + (n : Int))) ∧ Below w.heap.size w w' := by
  have hb0 : Below w.heap.size w (w.alloc (.cells #[.slice a0 n c0, .slice a1 n c1, .slice a2 0 c2] 36)) := (Below.refl _ _).alloc (Nat.le_refl _) _
  have hlt := box_lt w (.cells #[.slice a0 n c0, .slice a1 n c1, .slice a2 0 c2] 36)
  have d1 : (w.alloc (.cells #[.slice a0 n c0, .slice a1 n c1, .slice a2 0 c2] 36)).cell? ⟨w.heap.size, 1, none⟩ = some (.slice a1 n c1) := by simp [go_sem]
  have d2 : (w.alloc (.cells #[.slice a0 n c0, .slice a1 n c1, .slice a2 0 c2] 36)).cell? ⟨w.heap.size, 2, none⟩ = some (.slice a2 0 c2) := by simp [go_sem]
  have hrow := hs.row
  rw [textsM_len] at hrow
  go_enter Tryz.func18, Tryz.ntmps18
  go_wp2_with fail
  generalize w.alloc (.cells #[.slice a0 n c0, .slice a1 n c1, .slice a2 0 c2] 36) = W0 at *
  refine (heldStringS_any a0 c0 n 1 _ (by omega) (by omega) (by omega) (hrow.1.below hb0)).mono ?_
  rintro e w1 ⟨rfl, b1⟩
  have B1 : Below w.heap.size w w1 := hb0.trans (b1.mono hb0.size)
  replace d1 := cell_on b1 hlt d1
  replace d2 := cell_on b1 hlt d2
  have z1 := b1.size
  have hpos : ¬ (1 + (n : Int)) < 0 := by omega
  go_wp2_with fail
  refine (heldWinE_any a1 c1 n (1 + (n : Int)) _ h6 (by omega) (by omega) (hrow.2.below B1)).mono ?_
  rintro e w2 ⟨rfl, b2⟩
  have B2 : Below w.heap.size w w2 := B1.trans (b2.mono B1.size)
  replace d2 := cell_on b2 (by omega) d2
  go_wp2_with fail
  have hm := heldMarkS_any a2 c2 0 (1 + (n : Int)) w2 (by omega) (by omega) (by omega) (fun k hk => by simp [marked] at hk)
  refine hm.mono ?_
  rintro e w3 ⟨rfl, b3⟩
  have he : (1 + (n : Int) + 2 * ((0 : Nat) : Int)) = 1 + (n : Int) := by omega
  rw [he]
  go_wp2_with fail
  go_ret
  exact ⟨rfl, B2.trans (b3.mono B2.size)⟩

end Go.Proofs.YtpfhegengmlkmacGreatDoor
/- A gather that is an answer: its three parts in blocks of their own; marked, and held. -/
namespace Go.Proofs.YtpfhegengmlkmacGreatDoor
open Go.RowKit Go.BigFrame
set_option maxRecDepth 100000

theorem YW.span {w w' : World} {lo hi t lo' hi' : Nat} {L : List WinY} (h : YW w lo hi t L) (hs : Span lo' hi' w w') (ht : t < lo' ∨ hi' ≤ t) (hd : hi ≤ lo' ∨ hi' ≤ lo) : YW w' lo hi t L :=
  ⟨Nat.lt_of_lt_of_le h.lt hs.size, fun k hk => by rw [World.cell?_of_block (hs.block t h.lt ht)]; exact h.cell k hk, fun p hp => by
    obtain ⟨a, c, h1, h2, h3⟩ := h.at_ p hp
    have := h.in_ p hp
    exact ⟨a, c, h1, h2, h3.span hs (by omega)⟩, h.far, h.in_, h.dis⟩
/-- A block that none of the windows has is turned. -/
theorem YW.but {w w' : World} {lo hi t b : Nat} {L : List WinY} (h : YW w lo hi t L) (hs : But b w w') (ht : t ≠ b) (hd : ∀ p ∈ L, b < p.lo ∨ p.hi ≤ b) : YW w' lo hi t L :=
  ⟨Nat.lt_of_lt_of_le h.lt hs.size, fun k hk => by rw [World.cell?_of_block (hs.block t h.lt ht)]; exact h.cell k hk, fun p hp => by
    obtain ⟨a, c, h1, h2, h3⟩ := h.at_ p hp
    exact ⟨a, c, h1, h2, h3.span (hs.span (Nat.le_refl b) (Nat.lt_succ_self b)) (by have := hd p hp; omega)⟩, h.far, h.in_, h.dis⟩

/-- The stamp of a gather that is an answer. -/
def StG (w : World) (lo hi b t : Nat) (a2 : Option Addr) (L : List WinY) (m : List (ByteArray × Int)) : Prop := m = [] ∨ ∃ s, a2 = some ⟨s, 0, none⟩ ∧ lo ≤ s ∧ s < hi ∧ s ≠ b ∧ s ≠ t ∧ Own w s m ∧ ∀ p ∈ L, s < p.lo ∨ p.hi ≤ s
structure FullG (w : World) (lo hi b t : Nat) (a2 : Option Addr) (nm : List ByteArray) (L : List WinY) (m : List (ByteArray × Int)) : Prop where
  names : StrB w b nm
  wins : YW w lo hi t L
  bt : b ≠ t
  bin : lo ≤ b ∧ b < hi
  tin : lo ≤ t ∧ t < hi
  bfar : ∀ p ∈ L, b < p.lo ∨ p.hi ≤ b
  stamp : StG w lo hi b t a2 L m
def SafeG (w : World) (lo hi : Nat) (a0 a1 a2 : Option Addr) (nm : List ByteArray) (L : List WinY) (m : List (ByteArray × Int)) : Prop :=
  (nm = [] ∧ L = [] ∧ m = []) ∨ ∃ b t, a0 = some ⟨b, 0, none⟩ ∧ a1 = some ⟨t, 0, none⟩ ∧ FullG w lo hi b t a2 nm L m
theorem own_but {w w' : World} {b s : Nat} {m : List (ByteArray × Int)} (h : Own w s m) (hb : But b w w') (hne : s ≠ b) : Own w' s m := hb.own h hne
theorem StG.row {w : World} {lo hi b t : Nat} {a2 : Option Addr} {L : List WinY} {m : List (ByteArray × Int)} (h : StG w lo hi b t a2 L m) : Row w a2 m := by
  rcases h with rfl | ⟨s, rfl, _, _, _, _, ho, _⟩
  · exact fun k hk => absurd hk (Nat.not_lt_zero k)
  · exact ho.row
theorem SafeG.rows {w : World} {lo hi : Nat} {a0 a1 a2 : Option Addr} {nm : List ByteArray} {L : List WinY} {m : List (ByteArray × Int)} (h : SafeG w lo hi a0 a1 a2 nm L m) : RowS w a0 nm ∧ RowW w a1 (L.map (·.l)) ∧ Row w a2 m := by
  rcases h with ⟨rfl, rfl, rfl⟩ | ⟨b, t, rfl, rfl, h⟩
  · exact ⟨fun k hk => absurd hk (Nat.not_lt_zero k), fun k hk => absurd hk (Nat.not_lt_zero k), fun k hk => absurd hk (Nat.not_lt_zero k)⟩
  · exact ⟨h.names.row, h.wins.row, h.stamp.row⟩
theorem FullG.below {w w' : World} {lo hi b t : Nat} {a2 : Option Addr} {nm : List ByteArray} {L : List WinY} {m : List (ByteArray × Int)} (h : FullG w lo hi b t a2 nm L m) (hb : Below w.heap.size w w') : FullG w' lo hi b t a2 nm L m :=
  ⟨h.names.below hb, h.wins.below hb, h.bt, h.bin, h.tin, h.bfar, by
    rcases h.stamp with e | ⟨s, e, h1, h2, h3, h4, h5, h6⟩
    · exact .inl e
    · exact .inr ⟨s, e, h1, h2, h3, h4, h5.below hb, h6⟩⟩
theorem FullG.span {w w' : World} {lo hi b t lo' hi' : Nat} {a2 : Option Addr} {nm : List ByteArray} {L : List WinY} {m : List (ByteArray × Int)} (h : FullG w lo hi b t a2 nm L m) (hs : Span lo' hi' w w') (hd : hi ≤ lo' ∨ hi' ≤ lo) : FullG w' lo hi b t a2 nm L m :=
  ⟨h.names.span hs (by have := h.bin; omega), h.wins.span hs (by have := h.tin; omega) hd, h.bt, h.bin, h.tin, h.bfar, by
    rcases h.stamp with e | ⟨s, e, h1, h2, h3, h4, h5, h6⟩
    · exact .inl e
    · obtain ⟨mm, f, h7, hf⟩ := id h5
      exact .inr ⟨s, e, h1, h2, h3, h4, ⟨mm, f, h7.of_block (hs.block s h5.lt (by omega)), hf⟩, h6⟩⟩
theorem SafeG.below {w w' : World} {lo hi : Nat} {a0 a1 a2 : Option Addr} {nm : List ByteArray} {L : List WinY} {m : List (ByteArray × Int)} (h : SafeG w lo hi a0 a1 a2 nm L m) (hb : Below w.heap.size w w') : SafeG w' lo hi a0 a1 a2 nm L m := by
  rcases h with h | ⟨b, t, e1, e2, h⟩
  · exact .inl h
  · exact .inr ⟨b, t, e1, e2, h.below hb⟩
theorem SafeG.span {w w' : World} {lo hi lo' hi' : Nat} {a0 a1 a2 : Option Addr} {nm : List ByteArray} {L : List WinY} {m : List (ByteArray × Int)} (h : SafeG w lo hi a0 a1 a2 nm L m) (hs : Span lo' hi' w w') (hd : hi ≤ lo' ∨ hi' ≤ lo) : SafeG w' lo hi a0 a1 a2 nm L m := by
  rcases h with h | ⟨b, t, e1, e2, h⟩
  · exact .inl h
  · exact .inr ⟨b, t, e1, e2, h.span hs hd⟩

theorem mixY_same {k : Int} {L : List WinY} {q : WinY} (h : q ∈ mixY k L.length L) : ∃ p ∈ L, q.lo = p.lo ∧ q.hi = p.hi := by
  obtain ⟨i, hi, rfl⟩ := List.mem_iff_getElem.1 h
  have hi' : i < L.length := by rw [mixY_len] at hi; exact hi
  rw [mixY_at k L.length L i hi hi', if_pos hi']
  exact ⟨L[i], List.getElem_mem hi', rfl, rfl⟩
/-- The last mark of a gather. -/
def kG (n : Nat) (L : List WinY) (s : Nat) : Int := kAt (1 + (n : Int)) L.length L + 2 * (s : Int)

set_option maxHeartbeats 800000 in
theorem markIns_any (a0 : Option Addr) (c0 lo hi b t : Nat) (a2 : Option Addr) (nm : List ByteArray) (L : List WinY) (m : List (ByteArray × Int)) (w : World) (h6 : nm.length ≤ 6) (e0 : a0 = some ⟨b, 0, none⟩) (h : FullG w lo hi b t a2 nm L m) :
    Calls Tryz.prog 30 #[.slice a0 nm.length c0, .int .i64 1] w fun e w' => e = .returned (.int .i64 (1 + (nm.length : Int))) ∧ FullG w' lo hi b t a2 (textsM 1 nm.length) L m ∧ Span lo hi w w' := by
  subst e0
  refine (markStrB_any b c0 nm 1 w (by omega) (by omega) (by omega) h.names).mono ?_
  rintro e w' ⟨rfl, hs, hb⟩
  refine ⟨rfl, ⟨hs, h.wins.but hb h.bt.symm h.bfar, h.bt, h.bin, h.tin, h.bfar, ?_⟩, hb.span h.bin.1 h.bin.2⟩
  rcases h.stamp with e | ⟨s, e, h1, h2, h3, h4, h5, h6⟩
  · exact .inl e
  · exact .inr ⟨s, e, h1, h2, h3, h4, hb.own h5 h3, h6⟩

set_option maxHeartbeats 800000 in
theorem markWins_any (c1 lo hi b t : Nat) (a2 : Option Addr) (nm : List ByteArray) (L : List WinY) (m : List (ByteArray × Int)) (k : Int) (w : World) (h6 : L.length ≤ 6) (hL : ∀ p ∈ L, StampsP p.l) (hk0 : 0 ≤ k) (hk1 : k ≤ 1000) (h : FullG w lo hi b t a2 nm L m) :
    Calls Tryz.prog 58 #[.slice (some ⟨t, 0, none⟩) L.length c1, .int .i64 k] w fun e w' => e = .returned (.int .i64 (kAt k L.length L)) ∧ FullG w' lo hi b t a2 nm (mixY k L.length L) m ∧ Span lo hi w w' := by
  refine (markYW_any t c1 lo hi L k w h6 hL hk0 (by omega) h.wins).mono ?_
  rintro e w' ⟨rfl, hy, hk⟩
  refine ⟨rfl, ⟨?_, hy, h.bt, h.bin, h.tin, fun p hp => ?_, ?_⟩, hk.span h.wins.in_⟩
  · obtain ⟨mm, f, h7, hf⟩ := id h.names
    exact ⟨mm, f, h7.of_block (hk.block b h.names.lt h.bfar), hf⟩
  · obtain ⟨q, hq, e1, e2⟩ := mixY_same hp
    rw [e1, e2]
    exact h.bfar q hq
  · rcases h.stamp with e | ⟨s, e, h1, h2, h3, h4, h5, h6'⟩
    · exact .inl e
    · obtain ⟨mm, f, h7, hf⟩ := id h5
      refine .inr ⟨s, e, h1, h2, h3, h4, ⟨mm, f, h7.of_block (hk.block s h5.lt h6'), hf⟩, fun p hp => ?_⟩
      obtain ⟨q, hq, e1, e2⟩ := mixY_same hp
      rw [e1, e2]
      exact h6' q hq

set_option maxHeartbeats 800000 in
theorem markStG_any (c2 lo hi b t : Nat) (a2 : Option Addr) (nm : List ByteArray) (L : List WinY) (m : List (ByteArray × Int)) (k : Int) (w : World) (h12 : m.length ≤ 12) (hk0 : 0 ≤ k) (hk1 : k ≤ 10000) (h : FullG w lo hi b t a2 nm L m) :
    Calls Tryz.prog 59 #[.slice a2 m.length c2, .int .i64 k] w fun e w' => e = .returned (.int .i64 (k + 2 * (m.length : Int))) ∧ FullG w' lo hi b t a2 nm L (marked k m.length) ∧ Span lo hi w w' := by
  rcases h.stamp with rfl | ⟨s, rfl, h1, h2, h3, h4, h5, h6⟩
  · refine (markMarkS_none a2 c2 k w).mono ?_
    rintro e w' ⟨rfl, rfl⟩
    exact ⟨by simp, ⟨h.names, h.wins, h.bt, h.bin, h.tin, h.bfar, .inl (by simp [marked])⟩, Span.refl _ _ _⟩
  · have hsf : Safe w s (s + 1) (some ⟨s, 0, none⟩) m := .inr ⟨s, rfl, Nat.le_refl _, Nat.lt_succ_self _, h5⟩
    refine (markSafe_any (some ⟨s, 0, none⟩) c2 s (s + 1) m k w (by omega) hk0 (by omega) hsf).mono ?_
    rintro e w' ⟨rfl, hs, hsp⟩
    have hbut : But s w w' := ⟨hsp.os, hsp.tape, hsp.output, hsp.size, fun i hi hn => hsp.block i hi (by omega)⟩
    refine ⟨rfl, ⟨h.names.span hsp (by omega), h.wins.but hbut h4.symm h6, h.bt, h.bin, h.tin, h.bfar, ?_⟩, hbut.span h1 h2⟩
    rcases hs with e | ⟨s', e, _, _, ho⟩
    · exact .inl e
    · obtain rfl : s = s' := congrArg Addr.block (Option.some.inj e)
      exact .inr ⟨s, rfl, h1, h2, h3, h4, ho, h6⟩

set_option maxHeartbeats 800000 in
theorem markG_any (a0 a1 a2 : Option Addr) (c0 c1 c2 lo hi : Nat) (nm : List ByteArray) (L : List WinY) (m : List (ByteArray × Int)) (w : World) (h6 : nm.length ≤ 6) (hL6 : L.length ≤ 6) (hL : ∀ p ∈ L, StampsP p.l) (h12 : m.length ≤ 12) (hhi : hi ≤ w.heap.size) (hs : SafeG w lo hi a0 a1 a2 nm L m) :
    Calls Tryz.prog 15 #[.agg #[.slice a0 nm.length c0, .slice a1 L.length c1, .slice a2 m.length c2], .int .i64 1] w fun e w' => e = .returned (.int .i64 (kG nm.length L m.length)) ∧ SafeG w' lo hi a0 a1 a2 (textsM 1 nm.length) (mixY (1 + (nm.length : Int)) L.length L) (marked (kAt (1 + (nm.length : Int)) L.length L) m.length) ∧ Span lo hi w w' := by
  have hb0 : Below w.heap.size w (w.alloc (.cells #[.slice a0 nm.length c0, .slice a1 L.length c1, .slice a2 m.length c2] 36)) := (Below.refl _ _).alloc (Nat.le_refl _) _
  have d1 : (w.alloc (.cells #[.slice a0 nm.length c0, .slice a1 L.length c1, .slice a2 m.length c2] 36)).cell? ⟨w.heap.size, 1, none⟩ = some (.slice a1 L.length c1) := by simp [go_sem]
  have d2 : (w.alloc (.cells #[.slice a0 nm.length c0, .slice a1 L.length c1, .slice a2 m.length c2] 36)).cell? ⟨w.heap.size, 2, none⟩ = some (.slice a2 m.length c2) := by simp [go_sem]
  rcases hs with ⟨rfl, rfl, rfl⟩ | ⟨b, t, rfl, rfl, hG⟩
  · go_enter Tryz.func15, Tryz.ntmps15
    go_wp2_with fail
    have hr0 : RowW (w.alloc (.cells #[.slice a0 0 c0, .slice a1 0 c1, .slice a2 0 c2] 36)) a1 (List.replicate 0 []) := fun k hk => by simp at hk
    refine (markStringS_none a0 c0 1 _).mono ?_
    rintro e w1 ⟨rfl, rfl⟩
    go_wp2_with fail
    refine (markWinE_any a1 c1 0 1 _ (by omega) (by omega) (by omega) hr0).mono ?_
    rintro e w2 ⟨rfl, b2⟩
    have d2' := cell_on b2 (by simp) d2
    simp only [List.length_nil] at d2'
    go_wp2_with fail
    refine (markMarkS_none a2 c2 1 _).mono ?_
    rintro e w3 ⟨rfl, rfl⟩
    go_wp2_with fail
    go_ret
    refine ⟨rfl, .inl ⟨rfl, rfl, rfl⟩, ?_⟩
    have hb2 := hb0.trans (b2.mono hb0.size)
    exact ⟨hb2.os, hb2.tape, hb2.output, hb2.size, fun i hi _ => hb2.block i hi⟩
  · replace hG := hG.below hb0
    have hk := kAt_le hL L.length (1 + (nm.length : Int)) (Nat.le_refl _)
    go_enter Tryz.func15, Tryz.ntmps15
    go_wp2_with fail
    generalize w.alloc (.cells #[.slice (some ⟨b, 0, none⟩) nm.length c0, .slice (some ⟨t, 0, none⟩) L.length c1, .slice a2 m.length c2] 36) = W0 at *
    refine (markIns_any _ c0 lo hi b t a2 nm L m _ h6 rfl hG).mono ?_
    rintro e w1 ⟨rfl, hG1, s1⟩
    have d1' : w1.cell? ⟨w.heap.size, 1, none⟩ = some (.slice (some ⟨t, 0, none⟩) L.length c1) := by rw [World.cell?_of_block (s1.block w.heap.size (block_lt_of_cell d1) (by omega))]; exact d1
    have d2' : w1.cell? ⟨w.heap.size, 2, none⟩ = some (.slice a2 m.length c2) := by rw [World.cell?_of_block (s1.block w.heap.size (block_lt_of_cell d1) (by omega))]; exact d2
    clear d1 d2
    go_wp2_with fail
    refine (markWins_any c1 lo hi b t a2 _ L m (1 + (nm.length : Int)) _ hL6 hL (by omega) (by omega) hG1).mono ?_
    rintro e w2 ⟨rfl, hG2, s2⟩
    have d2'' : w2.cell? ⟨w.heap.size, 2, none⟩ = some (.slice a2 m.length c2) := by rw [World.cell?_of_block (s2.block w.heap.size (block_lt_of_cell d1') (by omega))]; exact d2'
    clear d1' d2'
    go_wp2_with fail
    refine (markStG_any c2 lo hi b t a2 _ _ m (kAt (1 + (nm.length : Int)) L.length L) _ h12 (by omega) (by omega) hG2).mono ?_
    rintro e w3 ⟨rfl, hG3, s3⟩
    go_wp2_with fail
    go_ret
    refine ⟨rfl, .inr ⟨b, t, rfl, rfl, hG3⟩, ?_⟩
    have sA : Span lo hi w W0 := ⟨hb0.os, hb0.tape, hb0.output, hb0.size, fun i hi _ => hb0.block i hi⟩
    exact ((sA.trans s1).trans s2).trans s3

set_option maxHeartbeats 800000 in
theorem heldG_any (a0 a1 a2 : Option Addr) (c0 c1 c2 lo hi n s : Nat) (L : List WinY) (w : World) (h6 : n ≤ 6) (hL6 : L.length ≤ 6) (hL : ∀ p ∈ L, StampsP p.l) (h12 : s ≤ 12) (hs : SafeG w lo hi a0 a1 a2 (textsM 1 n) (mixY (1 + (n : Int)) L.length L) (marked (kAt (1 + (n : Int)) L.length L) s)) :
    Calls Tryz.prog 18 #[.agg #[.slice a0 n c0, .slice a1 L.length c1, .slice a2 s c2], .int .i64 1] w fun e w' => e = .returned (.int .i64 (kG n L s)) ∧ Below w.heap.size w w' := by
  have hb0 : Below w.heap.size w (w.alloc (.cells #[.slice a0 n c0, .slice a1 L.length c1, .slice a2 s c2] 36)) := (Below.refl _ _).alloc (Nat.le_refl _) _
  have hlt := box_lt w (.cells #[.slice a0 n c0, .slice a1 L.length c1, .slice a2 s c2] 36)
  have d1 : (w.alloc (.cells #[.slice a0 n c0, .slice a1 L.length c1, .slice a2 s c2] 36)).cell? ⟨w.heap.size, 1, none⟩ = some (.slice a1 L.length c1) := by simp [go_sem]
  have d2 : (w.alloc (.cells #[.slice a0 n c0, .slice a1 L.length c1, .slice a2 s c2] 36)).cell? ⟨w.heap.size, 2, none⟩ = some (.slice a2 s c2) := by simp [go_sem]
  obtain ⟨hr0, hr1, hr2⟩ := hs.rows
  have hk := kAt_le hL L.length (1 + (n : Int)) (Nat.le_refl _)
  go_enter Tryz.func18, Tryz.ntmps18
  go_wp2_with fail
  generalize w.alloc (.cells #[.slice a0 n c0, .slice a1 L.length c1, .slice a2 s c2] 36) = W0 at *
  refine (heldStringS_any a0 c0 n 1 _ (by omega) (by omega) (by omega) (hr0.below hb0)).mono ?_
  rintro e w1 ⟨rfl, b1⟩
  have B1 : Below w.heap.size w w1 := hb0.trans (b1.mono hb0.size)
  replace d1 := cell_on b1 hlt d1
  replace d2 := cell_on b1 hlt d2
  have z1 := b1.size
  have hpos : ¬ (1 + (n : Int)) < 0 := by omega
  go_wp2_with fail
  refine (heldYW_any a1 c1 L (1 + (n : Int)) _ hL6 hL (by omega) (by omega) (hr1.below B1)).mono ?_
  rintro e w2 ⟨rfl, b2⟩
  have B2 : Below w.heap.size w w2 := B1.trans (b2.mono B1.size)
  replace d2 := cell_on b2 (by omega) d2
  have HKG : Hid (kG n L s = kAt (1 + (n : Int)) L.length L + 2 * (s : Int)) := rfl
  obtain ⟨q, hq⟩ : ∃ q, q = kAt (1 + (n : Int)) L.length L := ⟨_, rfl⟩
  rw [← hq] at hk hr2 HKG ⊢
  clear hq
  have hneg : ¬ q < 0 := by omega
  go_wp2_with fail
  refine (heldMarkS_any a2 c2 s q w2 (by omega) (by omega) (by omega) (hr2.below B2)).mono ?_
  rintro e w3 ⟨rfl, b3⟩
  have hneg3 : ¬ q + 2 * (s : Int) < 0 := by omega
  go_wp2_with fail
  go_ret
  exact ⟨by rw [HKG.out]; rfl, B2.trans (b3.mono B2.size)⟩

end Go.Proofs.YtpfhegengmlkmacGreatDoor
/- Mathematics of choices: the greatest one that agrees. -/
namespace Go.Proofs.YtpfhegengmlkmacGreatDoor

theorem pk_eq {ws : List (List ItemL)} {ps : List Int} (hin : InW ws ps) {i : Nat} (hi : i < ps.length) (hw : i < ws.length) : ∃ h : ps[i].toNat < ws[i].length, pkM ws ps i = (ws[i][ps[i].toNat]).2 := by
  obtain ⟨h0, h1⟩ := hin.2 i hi
  have e : ws.getD i [] = ws[i] := by simp [List.getD, hw]
  have e2 : ps.getD i 0 = ps[i] := by simp [List.getD, hi]
  rw [e] at h1
  have h : ps[i].toNat < ws[i].length := by omega
  refine ⟨h, ?_⟩
  unfold pkM
  rw [e, e2]
  simp [List.getD, h]

theorem chP_max {ws : List (List ItemL)} {a b : List Int} (ha : ChP ws a) (hb : ChP ws b) : ChP ws (List.zipWith max a b) := by
  obtain ⟨hok, la, ia, ga⟩ := ha
  obtain ⟨_, lb, ib, gb⟩ := hb
  have hl : (List.zipWith max a b).length = ws.length := by simp [la, lb]
  have hin : InW ws (List.zipWith max a b) := by
    refine ⟨by omega, fun i hi => ?_⟩
    have hia : i < a.length := by omega
    have hib : i < b.length := by omega
    have h1 := ia.2 i hia
    have h2 := ib.2 i hib
    rw [List.getElem_zipWith]
    omega
  refine ⟨hok, hl, hin, fun i k hk hi => ?_⟩
  rw [hl] at hi
  have hkw : k < ws.length := by omega
  obtain ⟨p1, e1⟩ := pk_eq hin (i := i) (by omega) hi
  obtain ⟨p2, e2⟩ := pk_eq hin (i := k) (by omega) hkw
  obtain ⟨q1, f1⟩ := pk_eq ia (i := i) (by omega) hi
  obtain ⟨q2, f2⟩ := pk_eq ia (i := k) (by omega) hkw
  obtain ⟨r1, g1⟩ := pk_eq ib (i := i) (by omega) hi
  obtain ⟨r2, g2⟩ := pk_eq ib (i := k) (by omega) hkw
  have A := ga i k hk (by omega)
  have B := gb i k hk (by omega)
  rw [f1, f2] at A
  rw [g1, g2] at B
  have L := later_agrees (hok.2.2 i hi) (hok.2.2 k hkw) q1 r1 q2 r2 A B
  rw [e1, e2]
  have m1 : ((List.zipWith max a b)[i]'(by omega)).toNat = max (a[i]'(by omega)).toNat (b[i]'(by omega)).toNat := by
    have h1 := ia.2 i (by omega)
    have h2 := ib.2 i (by omega)
    rw [List.getElem_zipWith]
    omega
  have m2 : ((List.zipWith max a b)[k]'(by omega)).toNat = max (a[k]'(by omega)).toNat (b[k]'(by omega)).toNat := by
    have h1 := ia.2 k (by omega)
    have h2 := ib.2 k (by omega)
    rw [List.getElem_zipWith]
    omega
  simp only [m1, m2]
  exact L

/-- What the greatest choice is: it agrees, and none that agrees is ahead of it at any place; or there is none. -/
def BestP (ws : List (List ItemL)) (out : List Int) (ok : Bool) : Prop :=
  (ok = true ∧ ChP ws out ∧ ∀ q, ChP ws q → ∀ i, (hq : i < q.length) → (ho : i < out.length) → q[i] ≤ out[i]) ∨ (ok = false ∧ out = [] ∧ ∀ q, ¬ ChP ws q)

theorem BestP.one {ws : List (List ItemL)} {a b : List Int} {x y : Bool} (h : BestP ws a x) (k : BestP ws b y) : a = b ∧ x = y := by
  rcases h with ⟨rfl, h1, h2⟩ | ⟨rfl, rfl, h2⟩
  · rcases k with ⟨rfl, k1, k2⟩ | ⟨rfl, rfl, k2⟩
    · refine ⟨?_, rfl⟩
      have la := h1.2.1
      have lb := k1.2.1
      apply List.ext_getElem (by omega)
      intro i hi hi'
      have e1 := h2 b k1 i hi' hi
      have e2 := k2 a h1 i hi hi'
      omega
    · exact absurd h1 (k2 a)
  · rcases k with ⟨rfl, k1, k2⟩ | ⟨rfl, rfl, k2⟩
    · exact absurd k1 (h2 b)
    · exact ⟨rfl, rfl⟩


/-- A spot: in which window, and at which place of its stamps. -/
abbrev Spot := Nat × Nat
/-- The source s stands there. -/
def SpotOf (ws : List (List ItemL)) (s : ByteArray) (p : Spot) : Prop := ∃ h : p.1 < ws.length, ∃ h0 : 0 < ws[p.1].length, ∃ h1 : p.2 < (ws[p.1][ws[p.1].length - 1]).2.length, ((ws[p.1][ws[p.1].length - 1]).2[p.2]).1 = s
/-- The spots of the sources that two windows or more have. -/
def SharedP (ws : List (List ItemL)) (sh : List (List Spot)) : Prop :=
  (∀ src ∈ sh, ∃ s, ∀ p ∈ src, SpotOf ws s p) ∧
  ∀ s i k j l, i ≠ k → SpotOf ws s (i, j) → SpotOf ws s (k, l) → ∃ src ∈ sh, (i, j) ∈ src ∧ (k, l) ∈ src
/-- What the chosen item has at a spot. -/
def verM (ws : List (List ItemL)) (ps : List Int) (p : Spot) : Int := ((pkM ws ps p.1).getD p.2 (ByteArray.empty, 0)).2

theorem names_pos {a b : List (ByteArray × Int)} (h : namesM a = namesM b) {j : Nat} (hj : j < a.length) : ∃ hb : j < b.length, a[j].1 = b[j].1 := by
  have hl : a.length = b.length := by
    have := congrArg List.length h
    simpa [namesM] using this
  refine ⟨by omega, ?_⟩
  have e : (namesM a)[j]? = (namesM b)[j]? := by rw [h]
  have hb : j < b.length := by omega
  simpa [namesM, hj, hb] using e

theorem verM_eq {ws : List (List ItemL)} {ps : List Int} (hok : OkW ws) (hl : ps.length = ws.length) (hin : InW ws ps) {s : ByteArray} {p : Spot} (hp : SpotOf ws s p) : ∃ h : p.2 < (pkM ws ps p.1).length, ((pkM ws ps p.1)[p.2]).1 = s ∧ verM ws ps p = ((pkM ws ps p.1)[p.2]).2 ∧ verM ws ps p = getM (pkM ws ps p.1) s ∧ 0 < verM ws ps p := by
  obtain ⟨h, h0, h1, hs⟩ := hp
  obtain ⟨q, e⟩ := pk_eq hin (i := p.1) (by omega) h
  have hw := hok.2.2 p.1 h
  have hn : namesM (ws[p.1][ws[p.1].length - 1]).2 = namesM (pkM ws ps p.1) := by
    rw [e]
    have := hw.names (ws[p.1].length - 1 - (ps[p.1]'(by omega)).toNat) (ps[p.1]'(by omega)).toNat (by omega)
    rw [this]
    congr 2
    congr 1
    omega
  obtain ⟨hb, en⟩ := names_pos hn h1
  have hst : StampP (pkM ws ps p.1) := by rw [e]; exact (hw.2.1 _ q).1
  have ss := stamp_sorted hst
  have hv : verM ws ps p = ((pkM ws ps p.1)[p.2]).2 := by
    unfold verM
    simp [List.getD, hb]
  have hm := getM_mem ss (List.getElem_mem hb)
  have hpos := ss.2 _ (List.getElem_mem hb)
  refine ⟨hb, by rw [← en, hs], hv, ?_, by rw [hv]; exact hpos⟩
  rw [hv, ← hm, ← en, hs]

/-- Which source stands where of a stamp. -/
theorem spot_of_get {ws : List (List ItemL)} {ps : List Int} (hok : OkW ws) (hl : ps.length = ws.length) (hin : InW ws ps) {i : Nat} (hi : i < ws.length) {s : ByteArray} (h : 0 < getM (pkM ws ps i) s) : ∃ j, SpotOf ws s (i, j) := by
  obtain ⟨q, e⟩ := pk_eq hin (i := i) (by omega) hi
  have hw := hok.2.2 i hi
  have h0 : 0 < ws[i].length := by omega
  rw [e, hw.same q (show ws[i].length - 1 < ws[i].length by omega) s] at h
  obtain ⟨j, hj, ej⟩ := List.mem_iff_getElem.1 (getM_pos h)
  exact ⟨j, hi, h0, hj, by simp only; rw [ej]⟩

theorem agW_iff {ws : List (List ItemL)} {ps : List Int} {sh : List (List Spot)} (hok : OkW ws) (hl : ps.length = ws.length) (hin : InW ws ps) (hsh : SharedP ws sh) :
    AgW ws ps ↔ ∀ src ∈ sh, ∀ p ∈ src, ∀ q ∈ src, verM ws ps p = verM ws ps q := by
  have hst : ∀ i, i < ws.length → StampP (pkM ws ps i) := fun i hi => by
    obtain ⟨q, e⟩ := pk_eq hin (i := i) (by omega) hi
    rw [e]
    exact ((hok.2.2 i hi).2.1 _ q).1
  constructor
  · intro h src hs p hp q hq
    obtain ⟨s, hall⟩ := hsh.1 src hs
    have p0 := hall p hp
    have q0 := hall q hq
    obtain ⟨_, _, _, e1, g1⟩ := verM_eq hok hl hin p0
    obtain ⟨_, _, _, e2, g2⟩ := verM_eq hok hl hin q0
    have hpw := p0.1
    have hqw := q0.1
    rcases Nat.lt_trichotomy p.1 q.1 with hlt | heq | hlt
    · have := (agree_get (hst _ hqw) (hst _ hpw)).1 (h q.1 p.1 hlt (by omega)) s (by omega) (by omega)
      omega
    · rw [e1, e2, heq]
    · have := (agree_get (hst _ hpw) (hst _ hqw)).1 (h p.1 q.1 hlt (by omega)) s (by omega) (by omega)
      omega
  · intro h i k hk hi
    rw [agree_get (hst i (by omega)) (hst k (by omega))]
    intro s h1 h2
    obtain ⟨j, hj⟩ := spot_of_get hok hl hin (i := i) (by omega) h1
    obtain ⟨l, hl'⟩ := spot_of_get hok hl hin (i := k) (by omega) h2
    obtain ⟨src, hm, m1, m2⟩ := hsh.2 s i k j l (by omega) hj hl'
    have e := h src hm _ m1 _ m2
    obtain ⟨_, _, _, e1, _⟩ := verM_eq hok hl hin hj
    obtain ⟨_, _, _, e2, _⟩ := verM_eq hok hl hin hl'
    simp only at e1 e2
    omega

/-- A step back loses no choice that agrees. -/
theorem step_back {ws : List (List ItemL)} {ps : List Int} {sh : List (List Spot)} (hok : OkW ws) (hl : ps.length = ws.length) (hin : InW ws ps) (hsh : SharedP ws sh) (hub : ∀ q, ChP ws q → ∀ i, (hq : i < q.length) → (ho : i < ps.length) → q[i] ≤ ps[i])
    {src : List Spot} (hs : src ∈ sh) {p r : Spot} (hp : p ∈ src) (hr : r ∈ src) (hlt : verM ws ps r < verM ws ps p) : ∀ q, ChP ws q → ∀ (hq : p.1 < q.length) (ho : p.1 < ps.length), q[p.1] < ps[p.1] := by
  intro q hc hq ho
  obtain ⟨s, hall⟩ := hsh.1 src hs
  have p0 := hall p hp
  have r0 := hall r hr
  have hpw := p0.1
  have hrw := r0.1
  obtain ⟨_, _, _, e1, _⟩ := verM_eq hok hl hin p0
  obtain ⟨_, _, _, e2, _⟩ := verM_eq hok hl hin r0
  obtain ⟨_, _, _, f1, _⟩ := verM_eq hok hc.2.1 hc.2.2.1 p0
  obtain ⟨_, _, _, f2, _⟩ := verM_eq hok hc.2.1 hc.2.2.1 r0
  have e := (agW_iff hok hc.2.1 hc.2.2.1 hsh).1 hc.2.2.2 src hs p hp r hr
  obtain ⟨a1, b1⟩ := pk_eq hin (i := r.1) (by omega) hrw
  obtain ⟨a2, b2⟩ := pk_eq hc.2.2.1 (i := r.1) (by rw [hc.2.1]; exact hrw) hrw
  obtain ⟨a3, b3⟩ := pk_eq hin (i := p.1) (by omega) hpw
  obtain ⟨a4, b4⟩ := pk_eq hc.2.2.1 (i := p.1) (by rw [hc.2.1]; exact hpw) hpw
  have u1 := hub q hc r.1 (by rw [hc.2.1]; exact hrw) (by omega)
  have l1 := (hok.2.2 r.1 hrw).le (i := (q[r.1]'(by rw [hc.2.1]; exact hrw)).toNat) (j := (ps[r.1]'(by omega)).toNat) (by omega) a1 s
  rw [← b1, ← b2] at l1
  have c0 := hin.2 p.1 ho
  have d0 := hc.2.2.1.2 p.1 hq
  by_cases hge : q[p.1] < ps[p.1]
  · exact hge
  · exfalso
    have l2 := (hok.2.2 p.1 hpw).le (i := (ps[p.1]'(by omega)).toNat) (j := (q[p.1]'(by rw [hc.2.1]; exact hpw)).toNat) (by omega) a4 s
    rw [← b3, ← b4] at l2
    omega

end Go.Proofs.YtpfhegengmlkmacGreatDoor
