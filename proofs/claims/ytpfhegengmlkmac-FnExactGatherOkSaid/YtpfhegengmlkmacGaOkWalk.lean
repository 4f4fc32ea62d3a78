/- The walk of the law FnExactGatherOk. -/
import Derived.Test.YtpfhegengmlkmacGaO
namespace Go.Proofs.Ytpfhegengmlkmac
open Go.RowKit Go.BigFrame
set_option maxRecDepth 100000

set_option maxHeartbeats 1600000 in
theorem lawGOk_any (a0 a1 a2 : Option Addr) (c0 c1 c2 : Nat) (g : GatL) (w : World) (hf : FitG g) (r0 : RowS w a0 g.ins) (r1 : RowW w a1 g.wins) (r2 : Row w a2 g.shown) :
    Calls Try.prog 9 #[.agg #[.slice a0 g.ins.length c0, .slice a1 g.wins.length c1, .slice a2 g.shown.length c2]] w fun e w' => e = .returned (.bool true) ∧ Below w.heap.size w w' := by
  have hb0 : Below w.heap.size w (w.alloc (.cells #[.slice a0 g.ins.length c0, .slice a1 g.wins.length c1, .slice a2 g.shown.length c2] 63)) := (Below.refl _ _).alloc (Nat.le_refl _) _
  have hlt := box_lt w (.cells #[.slice a0 g.ins.length c0, .slice a1 g.wins.length c1, .slice a2 g.shown.length c2] 63)
  have d0 : (w.alloc (.cells #[.slice a0 g.ins.length c0, .slice a1 g.wins.length c1, .slice a2 g.shown.length c2] 63)).cell? ⟨w.heap.size, 0, none⟩ = some (.slice a0 g.ins.length c0) := by simp [go_sem]
  have d1 : (w.alloc (.cells #[.slice a0 g.ins.length c0, .slice a1 g.wins.length c1, .slice a2 g.shown.length c2] 63)).cell? ⟨w.heap.size, 1, none⟩ = some (.slice a1 g.wins.length c1) := by simp [go_sem]
  have d2 : (w.alloc (.cells #[.slice a0 g.ins.length c0, .slice a1 g.wins.length c1, .slice a2 g.shown.length c2] 63)).cell? ⟨w.heap.size, 2, none⟩ = some (.slice a2 g.shown.length c2) := by simp [go_sem]
  go_enter Try.func9, Try.ntmps9
  go_wp2_with fail
  generalize w.alloc (.cells #[.slice a0 g.ins.length c0, .slice a1 g.wins.length c1, .slice a2 g.shown.length c2] 63) = W0 at *
  refine (szGather_any a0 a1 a2 c0 c1 c2 g 1048576 _ (r0.below hb0) (r1.below hb0) (r2.below hb0) hf (by omega) (by omega)).mono ?_
  rintro e w1 ⟨r, rfl, hr0, hr1, hr2, b1⟩
  have HR2 : Hid (0 ≤ r → SmallG 1048576 g) := hr2
  clear hr2
  have B1 : Below w.heap.size w w1 := hb0.trans (b1.mono hb0.size)
  replace d0 := cell_on b1 (by omega) d0
  replace d1 := cell_on b1 (by omega) d1
  replace d2 := cell_on b1 (by omega) d2
  have z1 := b1.size
  clear b1
  by_cases hneg : r < 0
  · go_wp2_with fail
    go_ret
    exact ⟨rfl, B1⟩
  have hS := HR2.out (by omega)
  have hi : g.ins.length ≤ 1048576 := by have := hS.ins.1; omega
  have him : g.ins.length ≤ maxLen := by unfold maxLen; omega
  clear HR2
  go_wp2_with fail
  refine (toGather_any a0 a1 a2 c0 c1 c2 g _ (r0.below B1) (r1.below B1) (r2.below B1) hS).mono ?_
  rintro e w2 ⟨⟨x0, x1, x2, lo, hi2, rfl, _, _, _, _, p0, p1, p2⟩, b2⟩
  have B2 : Below w.heap.size w w2 := B1.trans (b2.mono B1.size)
  replace d0 := cell_on b2 (by omega) d0
  replace d1 := cell_on b2 (by omega) d1
  replace d2 := cell_on b2 (by omega) d2
  have z2 := b2.size
  clear b2 B1
  go_wp2_with fail
  refine (specGOk_any _ _ _ _ _ _ g _ hf hi p0.row p1.row p2.row).mono ?_
  rintro e w3 ⟨⟨r3, rfl, hr3⟩, b3⟩
  have HR : Hid (r3 = true ↔ GatP g) := hr3
  clear hr3 p0 p1 p2
  have B3 : Below w.heap.size w w3 := B2.trans (b3.mono B2.size)
  replace d0 := cell_on b3 (by omega) d0
  replace d1 := cell_on b3 (by omega) d1
  replace d2 := cell_on b3 (by omega) d2
  have z3 := b3.size
  clear b3 B2
  go_wp2_with fail
  refine (toGather_any a0 a1 a2 c0 c1 c2 g _ (r0.below B3) (r1.below B3) (r2.below B3) hS).mono ?_
  rintro e w4 ⟨⟨y0, y1, y2, lo4, hi4, rfl, _, _, _, _, p0, p1, p2⟩, b4⟩
  have B4 : Below w.heap.size w w4 := B3.trans (b4.mono B3.size)
  replace d0 := cell_on b4 (by omega) d0
  replace d1 := cell_on b4 (by omega) d1
  replace d2 := cell_on b4 (by omega) d2
  have z4 := b4.size
  clear b4 B3
  go_wp2_with fail
  have b5 : Below w4.heap.size w4 (w4.alloc (.cells #[.slice (some ⟨y0, 0, none⟩) g.ins.length g.ins.length, .slice (some ⟨y1, 0, none⟩) g.wins.length g.wins.length, .slice (some ⟨y2, 0, none⟩) g.shown.length g.shown.length] 53)) := (Below.refl _ _).alloc (Nat.le_refl _) _
  have hlt5 := box_lt w4 (.cells #[.slice (some ⟨y0, 0, none⟩) g.ins.length g.ins.length, .slice (some ⟨y1, 0, none⟩) g.wins.length g.wins.length, .slice (some ⟨y2, 0, none⟩) g.shown.length g.shown.length] 53)
  have u0 : (w4.alloc (.cells #[.slice (some ⟨y0, 0, none⟩) g.ins.length g.ins.length, .slice (some ⟨y1, 0, none⟩) g.wins.length g.wins.length, .slice (some ⟨y2, 0, none⟩) g.shown.length g.shown.length] 53)).cell? ⟨w4.heap.size, 0, none⟩ = some (.slice (some ⟨y0, 0, none⟩) g.ins.length g.ins.length) := by simp [go_sem]
  have u1 : (w4.alloc (.cells #[.slice (some ⟨y0, 0, none⟩) g.ins.length g.ins.length, .slice (some ⟨y1, 0, none⟩) g.wins.length g.wins.length, .slice (some ⟨y2, 0, none⟩) g.shown.length g.shown.length] 53)).cell? ⟨w4.heap.size, 1, none⟩ = some (.slice (some ⟨y1, 0, none⟩) g.wins.length g.wins.length) := by simp [go_sem]
  have u2 : (w4.alloc (.cells #[.slice (some ⟨y0, 0, none⟩) g.ins.length g.ins.length, .slice (some ⟨y1, 0, none⟩) g.wins.length g.wins.length, .slice (some ⟨y2, 0, none⟩) g.shown.length g.shown.length] 53)).cell? ⟨w4.heap.size, 2, none⟩ = some (.slice (some ⟨y2, 0, none⟩) g.shown.length g.shown.length) := by simp [go_sem]
  have R0 := p0.row.below b5
  have R1 := p1.row.below b5
  have R2 := p2.row.below b5
  have B5 : Below w.heap.size w (w4.alloc (.cells #[.slice (some ⟨y0, 0, none⟩) g.ins.length g.ins.length, .slice (some ⟨y1, 0, none⟩) g.wins.length g.wins.length, .slice (some ⟨y2, 0, none⟩) g.shown.length g.shown.length] 53)) := B4.trans (b5.mono B4.size)
  replace d0 := cell_on b5 (by omega) d0
  replace d1 := cell_on b5 (by omega) d1
  replace d2 := cell_on b5 (by omega) d2
  clear p0 p1 p2 b5 B4
  generalize w4.alloc (.cells #[.slice (some ⟨y0, 0, none⟩) g.ins.length g.ins.length, .slice (some ⟨y1, 0, none⟩) g.wins.length g.wins.length, .slice (some ⟨y2, 0, none⟩) g.shown.length g.shown.length] 53) = W5 at *
  generalize w4.heap.size = bx at *
  refine (implGOk_any _ _ _ _ _ _ g _ hf hi (Nat.le_refl _) him R0 R1 R2).mono ?_
  rintro e w6 ⟨⟨r6, rfl, hr6⟩, b6⟩
  obtain rfl : r3 = r6 := by
    have h1 := HR.out
    cases r3 <;> cases r6 <;> simp_all
  clear hr6 HR
  have B6 : Below w.heap.size w w6 := B5.trans (b6.mono B5.size)
  replace R0 := R0.below b6
  replace R1 := R1.below b6
  replace R2 := R2.below b6
  replace d0 := cell_on b6 (by omega) d0
  replace d1 := cell_on b6 (by omega) d1
  replace d2 := cell_on b6 (by omega) d2
  replace u0 := cell_on b6 (by omega) u0
  replace u1 := cell_on b6 (by omega) u1
  replace u2 := cell_on b6 (by omega) u2
  have z6 := b6.size
  clear b6 B5
  go_wp2_with fail
  have bd : Below w6.heap.size w6 w6.drew := (Below.refl _ _).drew
  have B7 : Below w.heap.size w w6.drew := B6.trans (bd.mono B6.size)
  replace R0 := R0.below bd
  replace R1 := R1.below bd
  replace R2 := R2.below bd
  have SW : (w6.drew).cell? ⟨w.heap.size, 0, none⟩ = some (.slice a0 g.ins.length c0) ∧ (w6.drew).cell? ⟨w.heap.size, 1, none⟩ = some (.slice a1 g.wins.length c1) ∧ (w6.drew).cell? ⟨w.heap.size, 2, none⟩ = some (.slice a2 g.shown.length c2) ∧ (w6.drew).cell? ⟨bx, 0, none⟩ = some (.slice (some ⟨y0, 0, none⟩) g.ins.length g.ins.length) ∧ (w6.drew).cell? ⟨bx, 1, none⟩ = some (.slice (some ⟨y1, 0, none⟩) g.wins.length g.wins.length) ∧ (w6.drew).cell? ⟨bx, 2, none⟩ = some (.slice (some ⟨y2, 0, none⟩) g.shown.length g.shown.length) := ⟨d0, d1, d2, u0, u1, u2⟩
  refine wp_region_held_drew (S := fun u => u.cell? ⟨w.heap.size, 0, none⟩ = some (.slice a0 g.ins.length c0) ∧ u.cell? ⟨w.heap.size, 1, none⟩ = some (.slice a1 g.wins.length c1) ∧ u.cell? ⟨w.heap.size, 2, none⟩ = some (.slice a2 g.shown.length c2) ∧ u.cell? ⟨bx, 0, none⟩ = some (.slice (some ⟨y0, 0, none⟩) g.ins.length g.ins.length) ∧ u.cell? ⟨bx, 1, none⟩ = some (.slice (some ⟨y1, 0, none⟩) g.wins.length g.wins.length) ∧ u.cell? ⟨bx, 2, none⟩ = some (.slice (some ⟨y2, 0, none⟩) g.shown.length g.shown.length)) (by kernel_rfl) SW (fun _ => ?_)
  refine wpAnyH_take (i := 0) (v := .agg #[.slice (some ⟨y0, 0, none⟩) g.ins.length g.ins.length, .slice (some ⟨y1, 0, none⟩) g.wins.length g.wins.length, .slice (some ⟨y2, 0, none⟩) g.shown.length g.shown.length]) rfl (by kernel_rfl) (by kernel_rfl) (by kernel_rfl) (fun _ _ _ h => h) (Or.inl ⟨by rfl, ?_⟩) SW ?_
  · rintro u ⟨q1, q2, q3, q4, q5, q6⟩
    go_simp
  simp only [Act.put, List.setIfInBounds_toArray]
  refine wpAnyH_take (i := 1) (v := .agg #[.slice a0 g.ins.length c0, .slice a1 g.wins.length c1, .slice a2 g.shown.length c2]) rfl (by kernel_rfl) (by kernel_rfl) (by kernel_rfl) (fun _ _ _ h => h) (Or.inl ⟨by rfl, ?_⟩) SW ?_
  · rintro u ⟨q1, q2, q3, q4, q5, q6⟩
    go_simp
  simp only [Act.put]
  refine wpAnyH_ready (rs := [2]) (by kernel_rfl) (by simp) ?_
  refine AllReadyH.cons rfl (fun K hK => ?_) AllReadyH.nil
  rw [if_pos (by rfl)]
  go_simp
  generalize w6.drew = W6 at *
  refine (toGather_any a0 a1 a2 c0 c1 c2 g _ (r0.below B7) (r1.below B7) (r2.below B7) hS).mono ?_
  rintro e w8 ⟨⟨v0, v1, v2, lo8, hi8, rfl, _, _, _, _, p0, p1, p2⟩, b8⟩
  have B8 : Below w.heap.size w w8 := B7.trans (b8.mono B7.size)
  have z0 := B7.size
  have S8 : w8.cell? ⟨w.heap.size, 0, none⟩ = some (.slice a0 g.ins.length c0) ∧ w8.cell? ⟨w.heap.size, 1, none⟩ = some (.slice a1 g.wins.length c1) ∧ w8.cell? ⟨w.heap.size, 2, none⟩ = some (.slice a2 g.shown.length c2) ∧ w8.cell? ⟨bx, 0, none⟩ = some (.slice (some ⟨y0, 0, none⟩) g.ins.length g.ins.length) ∧ w8.cell? ⟨bx, 1, none⟩ = some (.slice (some ⟨y1, 0, none⟩) g.wins.length g.wins.length) ∧ w8.cell? ⟨bx, 2, none⟩ = some (.slice (some ⟨y2, 0, none⟩) g.shown.length g.shown.length) := ⟨cell_on b8 (block_lt_of_cell SW.1) SW.1, cell_on b8 (block_lt_of_cell SW.1) SW.2.1, cell_on b8 (block_lt_of_cell SW.1) SW.2.2.1, cell_on b8 (block_lt_of_cell SW.2.2.2.1) SW.2.2.2.1, cell_on b8 (block_lt_of_cell SW.2.2.2.1) SW.2.2.2.2.1, cell_on b8 (block_lt_of_cell SW.2.2.2.1) SW.2.2.2.2.2⟩
  refine hK.out _ _ S8 (fun _ => ?_)
  clear hK K
  refine wpAnyH_ready (rs := [3]) (by kernel_rfl) (by simp) ?_
  refine AllReadyH.cons rfl (fun K hK => ?_) AllReadyH.nil
  rw [if_pos (by rfl)]
  go_simp
  refine (eqGather_same _ _ _ _ _ _ _ _ _ _ _ _ g _ hf (R0.below b8) (R1.below b8) (R2.below b8) p0.row p1.row p2.row).mono ?_
  rintro e w9 ⟨rfl, b9⟩
  have S9 : w9.cell? ⟨w.heap.size, 0, none⟩ = some (.slice a0 g.ins.length c0) ∧ w9.cell? ⟨w.heap.size, 1, none⟩ = some (.slice a1 g.wins.length c1) ∧ w9.cell? ⟨w.heap.size, 2, none⟩ = some (.slice a2 g.shown.length c2) ∧ w9.cell? ⟨bx, 0, none⟩ = some (.slice (some ⟨y0, 0, none⟩) g.ins.length g.ins.length) ∧ w9.cell? ⟨bx, 1, none⟩ = some (.slice (some ⟨y1, 0, none⟩) g.wins.length g.wins.length) ∧ w9.cell? ⟨bx, 2, none⟩ = some (.slice (some ⟨y2, 0, none⟩) g.shown.length g.shown.length) := ⟨cell_on b9 (block_lt_of_cell S8.1) S8.1, cell_on b9 (block_lt_of_cell S8.1) S8.2.1, cell_on b9 (block_lt_of_cell S8.1) S8.2.2.1, cell_on b9 (block_lt_of_cell S8.2.2.2.1) S8.2.2.2.1, cell_on b9 (block_lt_of_cell S8.2.2.2.1) S8.2.2.2.2.1, cell_on b9 (block_lt_of_cell S8.2.2.2.1) S8.2.2.2.2.2⟩
  refine hK.out _ _ S9 (fun _ => ?_)
  clear hK K
  refine wpAnyH_take (i := 4) (v := .bool false) rfl (by kernel_rfl) (by kernel_rfl) (by kernel_rfl) (fun _ _ _ h => h) (Or.inl ⟨by rfl, ?_⟩) S9 ?_
  · rintro u ⟨q1, q2, q3, q4, q5, q6⟩
    go_simp
  simp only [Act.put, List.setIfInBounds_toArray]
  refine wpAnyH_done (by kernel_rfl) ?_ _
  clear S9 S8 SW
  go_wp2_with fail
  go_ret
  exact ⟨rfl, B8.trans (b9.mono B8.size)⟩

end Go.Proofs.Ytpfhegengmlkmac
