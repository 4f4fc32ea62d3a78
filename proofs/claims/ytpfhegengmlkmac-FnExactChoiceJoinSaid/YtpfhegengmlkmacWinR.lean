/- readWindow once more: the items lie in an older world. -/
import Derived.Test.YtpfhegengmlkmacWinL
namespace Go.Proofs.Ytpfhegengmlkmac
open Go.RowKit Go.BigFrame
set_option maxRecDepth 100000

set_option maxHeartbeats 3200000 in
theorem readWindow_from (W0 : World) (a : Option Addr) (cap : Nat) (l : List ItemL) (w : World) (hf : FitI l) (hr : RowI W0 a l) (h0 : Below W0.heap.size W0 w) :
    Calls Try.prog 51 #[.slice a l.length cap] w fun e w' => ReadE W0 l e ∧ Below w.heap.size w w' := by
  have hl := hf.1
  unfold maxLen at hl
  by_cases h4 : 4 < l.length
  · have HN : Hid (¬ WinP l) := fun h => by have := h.1; omega
    go_enter Try.func51, Try.ntmps51
    go_wp2_with fail
    exact bodyPost_ret (v := .tuple #[.agg zero10, .bool false]) (by simp [results, Try.results51, go_sem]) rfl ⟨.inr ⟨_, rfl, HN.out, winV_zero _⟩, ((Below.refl _ _).alloc (Nat.le_refl _) _).alloc (by simp) _⟩
  go_enter Try.func51, Try.ntmps51
  go_wp2_with fail
  have hA1 : Below w.heap.size w (w.alloc (.cells zero10 80)) := (Below.refl _ _).alloc (Nat.le_refl _) _
  have hA2 : Below w.heap.size w ((w.alloc (.cells zero10 80)).alloc (.cells zero10 80)) := hA1.alloc hA1.size _
  have hZ : ZeroB ((w.alloc (.cells zero10 80)).alloc (.cells zero10 80)) w.heap.size := (zeroB_new w).below ((Below.refl _ _).alloc (Nat.le_refl _) _)
  have hWn : WinB W0 ((w.alloc (.cells zero10 80)).alloc (.cells zero10 80)) (w.heap.size + 1) 0 [] := by
    have h := winB_new W0 (w.alloc (.cells zero10 80)) (Nat.le_trans h0.size hA1.size)
    rw [World.size_alloc] at h
    exact h
  go_loopw [13] (fun i wr => ∃ k : Nat, k ≤ l.length ∧ i = .int .i64 k ∧ WinB W0 wr (w.heap.size + 1) 0 (l.take k) ∧ Hid (WinTo l k) ∧ ZeroB wr w.heap.size ∧ Below w.heap.size w wr) (fun i _ => l.length - (intOf i).toNat)
  case atStart => exact ⟨0, Nat.zero_le _, rfl, hWn, winTo_zero l, hZ, hA2⟩
  case round =>
    obtain ⟨k, hk, rfl, hW, HTO, hz, hb⟩ := hrel
    clear hA1 hA2 hZ hWn
    by_cases hlt : k < l.length
    · obtain ⟨b1, o1, rfl, g1, e0, v1, e1, ⟨s1, t1, rfl, hc1, r1⟩⟩ := hr k hlt
      have k0 : (0 : Int) ≤ (k : Int) := by omega
      have k1 : (k : Int) < (l.length : Int) := by omega
      have x0 := cell_on (h0.trans (hb.mono h0.size)) g1 e0
      have x1 := cell_on (h0.trans (hb.mono h0.size)) g1 e1
      have fk := hf.2 k hlt
      clear e0 e1
      go_wp2_with fail
      have hb0 : Below wr.heap.size wr (wr.alloc (.cells #[.int .i64 l[k].1, .slice s1 l[k].2.length t1] 74)) := (Below.refl _ _).alloc (Nat.le_refl _) _
      have d0 := box0 wr (.int .i64 l[k].1) (.slice s1 l[k].2.length t1) 74
      have d1 := box1 wr (.int .i64 l[k].1) (.slice s1 l[k].2.length t1) 74
      have hlt0 := box_lt wr (.cells #[.int .i64 l[k].1, .slice s1 l[k].2.length t1] 74)
      replace hW := hW.below hb0
      replace hz := hz.below hb0
      have B1 : Below w.heap.size w (wr.alloc (.cells #[.int .i64 l[k].1, .slice s1 l[k].2.length t1] 74)) := hb.trans (hb0.mono hb.size)
      generalize hq : wr.heap.size = q at *
      generalize wr.alloc (.cells #[.int .i64 l[k].1, .slice s1 l[k].2.length t1] 74) = W1 at *
      clear hb0 x0 x1 hq hb
      refine (itemOk_any l[k].1 s1 t1 l[k].2 W1 (r1.below (h0.trans (B1.mono h0.size))) fk).mono ?_
      rintro e w2 ⟨⟨r, rfl, hr2⟩, b2⟩
      replace hW := hW.below b2
      replace hz := hz.below b2
      replace d0 := cell_on b2 hlt0 d0
      replace d1 := cell_on b2 hlt0 d1
      have B2 : Below w.heap.size w w2 := B1.trans (b2.mono B1.size)
      have hlt2 : q < w2.heap.size := Nat.lt_of_lt_of_le hlt0 b2.size
      have HR2 : Hid (r = true ↔ StampP l[k].2 ∧ l[k].2 ≠ []) := hr2
      clear hr2 b2 B1 hlt0
      cases r
      · have HN : Hid (¬ WinP l) := fun h => by simpa using HR2.out.2 (h.2.1 k hlt)
        obtain ⟨z0, z1, z2, z3, z4, z5, z6, z7, z8, z9⟩ := hz.cells
        obtain ⟨y0, y1, y2, y3, y4, y5, y6, y7, y8, y9⟩ := hz.free
        have HY : Hid _ := put10_cells hz (.int .i64 0) (.slice none 0 0) (.int .i64 0) (.slice none 0 0) (.int .i64 0) (.slice none 0 0) (.int .i64 0) (.slice none 0 0) (.int .i64 0) (.int .i64 0)
        clear HR2 hz hW
        go_wp2_with fail
        obtain ⟨Y0, Y1, Y2, Y3, Y4, Y5, Y6, Y7, Y8, Y9⟩ := HY.out
        unfold put10 at Y0 Y1 Y2 Y3 Y4 Y5 Y6 Y7 Y8 Y9
        exact bodyPost_ret (v := .tuple #[.agg zero10, .bool false]) (by simp [results, Try.results51, go_sem, Y0, Y1, Y2, Y3, Y4, Y5, Y6, Y7, Y8, Y9]) rfl ⟨.inr ⟨_, rfl, HN.out, winV_zero _⟩, put10_below B2 (Nat.le_refl _) _ _ _ _ _ _ _ _ _ _⟩
      · go_wp2_with fail
        refine (takes_any W0 w2 _ 0 (l.take k) l[k].1 _ l[k].2 hW (h0.trans (B2.mono h0.size)) (stamps_take HTO.out) ⟨s1, t1, rfl, hc1, r1⟩ (HR2.out.1 (by trivial)).1).mono ?_
        rintro e w3 ⟨⟨r, rfl, hr3⟩, b3⟩
        replace hW := hW.below b3
        replace hz := hz.below b3
        replace d0 := cell_on b3 hlt2 d0
        replace d1 := cell_on b3 hlt2 d1
        have B3 : Below w.heap.size w w3 := B2.trans (b3.mono B2.size)
        have HR3 : Hid (r = true ↔ ∀ h : 0 < (l.take k).length, AboveP ((l.take k)[(l.take k).length - 1]'(by omega)).2 l[k].2) := hr3
        clear hr3 b3 B2 hlt2
        cases r
        · have HN : Hid (¬ WinP l) := fun h => by
            have h3 := HR3.out.2 (take_above h hlt)
            simp at h3
          obtain ⟨z0, z1, z2, z3, z4, z5, z6, z7, z8, z9⟩ := hz.cells
          obtain ⟨y0, y1, y2, y3, y4, y5, y6, y7, y8, y9⟩ := hz.free
          have HY : Hid _ := put10_cells hz (.int .i64 0) (.slice none 0 0) (.int .i64 0) (.slice none 0 0) (.int .i64 0) (.slice none 0 0) (.int .i64 0) (.slice none 0 0) (.int .i64 0) (.int .i64 0)
          clear HR2 HR3 hz hW
          go_wp2_with fail
          obtain ⟨Y0, Y1, Y2, Y3, Y4, Y5, Y6, Y7, Y8, Y9⟩ := HY.out
          unfold put10 at Y0 Y1 Y2 Y3 Y4 Y5 Y6 Y7 Y8 Y9
          exact bodyPost_ret (v := .tuple #[.agg zero10, .bool false]) (by simp [results, Try.results51, go_sem, Y0, Y1, Y2, Y3, Y4, Y5, Y6, Y7, Y8, Y9]) rfl ⟨.inr ⟨_, rfl, HN.out, winV_zero _⟩, put10_below B3 (Nat.le_refl _) _ _ _ _ _ _ _ _ _ _⟩
        · have HST : Hid (WinTo l (k + 1)) := winTo_step HTO.out hlt (HR2.out.1 (by trivial)) (fun h => above_take hlt h (HR3.out.1 (by trivial)))
          have HT : Hid (l.take (k + 1) = l.take k ++ [(l[k].1, l[k].2)]) := List.take_succ_eq_append_getElem hlt
          clear HR2 HR3 HTO
          go_wp2_with fail
          refine (push_room W0 w3 _ 0 (l.take k) l[k].1 _ l[k].2 hW ⟨s1, t1, rfl, hc1, r1⟩ (by rw [List.length_take]; omega)).mono ?_
          rintro e w4 ⟨rfl, hW4, b4⟩
          have hz4 := hz.but b4 (by omega)
          have B4 : Below w.heap.size w w4 := B3.trans (b4.below (by omega) B3.size)
          clear hW hz d0 d1 b4
          go_wp2_with fail
          exact ⟨⟨k + 1, by omega, by go_num, by rw [HT.out]; exact hW4, HST, hz4, B4⟩, by simp [intOf]; omega⟩
    · have HF : Hid (WinP l) := winP_of HTO.out hlt (by omega)
      rw [List.take_of_length_le (by omega)] at hW
      obtain ⟨z0, z1, z2, z3, z4, z5, z6, z7, z8, z9⟩ := hz.cells
      obtain ⟨y0, y1, y2, y3, y4, y5, y6, y7, y8, y9⟩ := hz.free
      obtain ⟨_, _, _, f, ⟨hrow, hsh⟩, e8, e9, hf'⟩ := hW
      obtain ⟨x0, a0, n0, c0, p0, p1⟩ := hsh 0 (by omega)
      obtain ⟨x1, a1, n1, c1, p2, p3⟩ := hsh 1 (by omega)
      obtain ⟨x2, a2, n2, c2, p4, p5⟩ := hsh 2 (by omega)
      obtain ⟨x3, a3, n3, c3, p6, p7⟩ := hsh 3 (by omega)
      have HV : Hid (WinV W0 (.agg #[.int .i64 x0, .slice a0 n0 c0, .int .i64 x1, .slice a1 n1 c1, .int .i64 x2, .slice a2 n2 c2, .int .i64 x3, .slice a3 n3 c3, .int .i64 0, .int .i64 l.length]) l) := winV_of (by omega) p0 p1 p2 p3 p4 p5 p6 p7 hf'
      have r0 : wr.cell? ⟨w.heap.size + 1, 0, none⟩ = some (.int .i64 x0) := by rw [hrow.cell (by omega), ← p0]
      have r1 : wr.cell? ⟨w.heap.size + 1, 1, none⟩ = some (.slice a0 n0 c0) := by rw [hrow.cell (by omega), ← p1]
      have r2 : wr.cell? ⟨w.heap.size + 1, 2, none⟩ = some (.int .i64 x1) := by rw [hrow.cell (by omega), ← p2]
      have r3 : wr.cell? ⟨w.heap.size + 1, 3, none⟩ = some (.slice a1 n1 c1) := by rw [hrow.cell (by omega), ← p3]
      have r4 : wr.cell? ⟨w.heap.size + 1, 4, none⟩ = some (.int .i64 x2) := by rw [hrow.cell (by omega), ← p4]
      have r5 : wr.cell? ⟨w.heap.size + 1, 5, none⟩ = some (.slice a2 n2 c2) := by rw [hrow.cell (by omega), ← p5]
      have r6 : wr.cell? ⟨w.heap.size + 1, 6, none⟩ = some (.int .i64 x3) := by rw [hrow.cell (by omega), ← p6]
      have r7 : wr.cell? ⟨w.heap.size + 1, 7, none⟩ = some (.slice a3 n3 c3) := by rw [hrow.cell (by omega), ← p7]
      have r8 : wr.cell? ⟨w.heap.size + 1, 8, none⟩ = some (.int .i64 0) := by rw [hrow.cell (by omega), e8]; rfl
      have r9 : wr.cell? ⟨w.heap.size + 1, 9, none⟩ = some (.int .i64 l.length) := by rw [hrow.cell (by omega), e9]
      have HY : Hid _ := put10_cells hz (.int .i64 x0) (.slice a0 n0 c0) (.int .i64 x1) (.slice a1 n1 c1) (.int .i64 x2) (.slice a2 n2 c2) (.int .i64 x3) (.slice a3 n3 c3) (.int .i64 0) (.int .i64 l.length)
      clear HTO hz hrow hsh e8 e9 hf' p0 p1 p2 p3 p4 p5 p6 p7 f
      go_wp2_with fail
      obtain ⟨Y0, Y1, Y2, Y3, Y4, Y5, Y6, Y7, Y8, Y9⟩ := HY.out
      unfold put10 at Y0 Y1 Y2 Y3 Y4 Y5 Y6 Y7 Y8 Y9
      exact bodyPost_ret (v := .tuple #[.agg #[.int .i64 x0, .slice a0 n0 c0, .int .i64 x1, .slice a1 n1 c1, .int .i64 x2, .slice a2 n2 c2, .int .i64 x3, .slice a3 n3 c3, .int .i64 0, .int .i64 l.length], .bool true]) (by simp [results, Try.results51, go_sem, Y0, Y1, Y2, Y3, Y4, Y5, Y6, Y7, Y8, Y9]) rfl ⟨.inl ⟨_, rfl, HF.out, HV.out⟩, put10_below hb (Nat.le_refl _) _ _ _ _ _ _ _ _ _ _⟩

end Go.Proofs.Ytpfhegengmlkmac
