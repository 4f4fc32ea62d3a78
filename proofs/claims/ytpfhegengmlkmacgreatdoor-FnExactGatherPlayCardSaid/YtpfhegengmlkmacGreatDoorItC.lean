/- Walks: toItem, toItemS; items in blocks of the call's own. -/
import Derived.Test.YtpfhegengmlkmacGreatDoorItB
import Derived.Test.YtpfhegengmlkmacGreatDoorWb
namespace Go.Proofs.YtpfhegengmlkmacGreatDoor
open Go.RowKit

theorem IsSl.of_own {w : World} {b : Nat} {l : List (ByteArray × Int)} (h : Own w b l) : IsSl w (.slice (some ⟨b, 0, none⟩) l.length l.length) l := ⟨_, _, rfl, Nat.le_refl _, h.row⟩

theorem Own.setOther {w : World} {b : Nat} {l : List (ByteArray × Int)} (h : Own w b l) {q : Nat} (hq : b ≠ q) (i : Nat) (v : Value) : Own (w.setCell ⟨q, i, none⟩ v) b l := by
  obtain ⟨m, f, h, hf⟩ := h
  exact ⟨m, f, h.of_block (Below.heap_setCell _ _ _ _ (by simp only; omega)), hf⟩

set_option maxHeartbeats 800000 in
theorem toItem_any (x : Int) (a : Option Addr) (c : Nat) (l : List (ByteArray × Int)) (w : World) (hr : Row w a l) (hl : l.length ≤ 1048576) :
    Calls Tryz.prog 50 #[.agg #[.int .i64 x, .slice a l.length c]] w fun e w' => (∃ b, w.heap.size ≤ b ∧ e = .returned (.agg #[.int .i64 x, .slice (some ⟨b, 0, none⟩) l.length l.length]) ∧ Own w' b l) ∧ Below w.heap.size w w' := by
  go_enter Tryz.func50, Tryz.ntmps50
  go_wp2_with fail
  have hsz : (((w.alloc (.cells #[.int .i64 x, .slice a l.length c] 28)).alloc (.cells #[.int .i64 0, .slice none 0 0] 44)).alloc (.cells #[.int .i64 x, .slice none 0 0] 44)).heap.size = w.heap.size + 3 := by simp
  have c0 : (((w.alloc (.cells #[.int .i64 x, .slice a l.length c] 28)).alloc (.cells #[.int .i64 0, .slice none 0 0] 44)).alloc (.cells #[.int .i64 x, .slice none 0 0] 44)).cell? ⟨w.heap.size + 1 + 1, 0, none⟩ = some (.int .i64 x) := by simp [go_sem]
  have c1 : (((w.alloc (.cells #[.int .i64 x, .slice a l.length c] 28)).alloc (.cells #[.int .i64 0, .slice none 0 0] 44)).alloc (.cells #[.int .i64 x, .slice none 0 0] 44)).cell? ⟨w.heap.size + 1 + 1, 1, none⟩ = some (.slice none 0 0) := by simp [go_sem]
  have d0 : (((w.alloc (.cells #[.int .i64 x, .slice a l.length c] 28)).alloc (.cells #[.int .i64 0, .slice none 0 0] 44)).alloc (.cells #[.int .i64 x, .slice none 0 0] 44)).cell? ⟨w.heap.size + 1, 0, none⟩ = some (.int .i64 0) := by simp [go_sem]
  have d1 : (((w.alloc (.cells #[.int .i64 x, .slice a l.length c] 28)).alloc (.cells #[.int .i64 0, .slice none 0 0] 44)).alloc (.cells #[.int .i64 x, .slice none 0 0] 44)).cell? ⟨w.heap.size + 1, 1, none⟩ = some (.slice none 0 0) := by simp [go_sem]
  have fc1 : (((w.alloc (.cells #[.int .i64 x, .slice a l.length c] 28)).alloc (.cells #[.int .i64 0, .slice none 0 0] 44)).alloc (.cells #[.int .i64 x, .slice none 0 0] 44)).frozen? ⟨w.heap.size + 1 + 1, 1, none⟩ = false := by simp [go_sem]
  have fd0 : (((w.alloc (.cells #[.int .i64 x, .slice a l.length c] 28)).alloc (.cells #[.int .i64 0, .slice none 0 0] 44)).alloc (.cells #[.int .i64 x, .slice none 0 0] 44)).frozen? ⟨w.heap.size + 1, 0, none⟩ = false := by simp [go_sem]
  have fd1 : (((w.alloc (.cells #[.int .i64 x, .slice a l.length c] 28)).alloc (.cells #[.int .i64 0, .slice none 0 0] 44)).alloc (.cells #[.int .i64 x, .slice none 0 0] 44)).frozen? ⟨w.heap.size + 1, 1, none⟩ = false := by simp [go_sem]
  have hb0 : Below w.heap.size w (((w.alloc (.cells #[.int .i64 x, .slice a l.length c] 28)).alloc (.cells #[.int .i64 0, .slice none 0 0] 44)).alloc (.cells #[.int .i64 x, .slice none 0 0] 44)) := (((Below.refl _ _).alloc (Nat.le_refl _) _).alloc (by simp) _).alloc (by simp; omega) _
  generalize ((w.alloc (.cells #[.int .i64 x, .slice a l.length c] 28)).alloc (.cells #[.int .i64 0, .slice none 0 0] 44)).alloc (.cells #[.int .i64 x, .slice none 0 0] 44) = W0 at *
  have g1 : w.heap.size + 1 < W0.heap.size := by omega
  have g2 : w.heap.size + 1 + 1 < W0.heap.size := by omega
  refine (toMarkS_any a c l _ hl (hr.below hb0)).mono ?_
  rintro e w1 ⟨rfl, ho, b1⟩
  replace c0 := cell_on b1 g2 c0
  replace c1 := cell_on b1 g2 c1
  replace d0 := cell_on b1 g1 d0
  replace d1 := cell_on b1 g1 d1
  replace fc1 := (b1.frozen (p := ⟨w.heap.size + 1 + 1, 1, none⟩) g2).trans fc1
  replace fd0 := (b1.frozen (p := ⟨w.heap.size + 1, 0, none⟩) g1).trans fd0
  replace fd1 := (b1.frozen (p := ⟨w.heap.size + 1, 1, none⟩) g1).trans fd1
  have B1 : Below w.heap.size w w1 := hb0.trans (b1.mono hb0.size)
  have hlt := ho.lt
  rw [hsz] at ho
  go_wp2_with fail
  have y0 : (((w1.setCell ⟨w.heap.size + 1 + 1, 1, none⟩ (.slice (some ⟨w.heap.size + 3, 0, none⟩) l.length l.length)).setCell ⟨w.heap.size + 1, 0, none⟩ (.int .i64 x)).setCell ⟨w.heap.size + 1, 1, none⟩ (.slice (some ⟨w.heap.size + 3, 0, none⟩) l.length l.length)).cell? ⟨w.heap.size + 1, 0, none⟩ = some (.int .i64 x) := by simp [go_sem, d0]
  have y1 : (((w1.setCell ⟨w.heap.size + 1 + 1, 1, none⟩ (.slice (some ⟨w.heap.size + 3, 0, none⟩) l.length l.length)).setCell ⟨w.heap.size + 1, 0, none⟩ (.int .i64 x)).setCell ⟨w.heap.size + 1, 1, none⟩ (.slice (some ⟨w.heap.size + 3, 0, none⟩) l.length l.length)).cell? ⟨w.heap.size + 1, 1, none⟩ = some (.slice (some ⟨w.heap.size + 3, 0, none⟩) l.length l.length) := by simp [go_sem, d1]
  exact bodyPost_ret (v := .agg #[.int .i64 x, .slice (some ⟨w.heap.size + 3, 0, none⟩) l.length l.length]) (by simp [results, Tryz.results50, go_sem, y0, y1]) rfl
    ⟨⟨w.heap.size + 3, by omega, rfl, ((ho.setOther (by omega) _ _).setOther (by omega) _ _).setOther (by omega) _ _⟩, ((B1.setCell (by simp only; omega) _).setCell (by simp only; omega) _).setCell (by simp only; omega) _⟩

end Go.Proofs.YtpfhegengmlkmacGreatDoor
