/- The walk of the law FnExactWindowPut. -/
import Derived.Test.YtpfhegengmlkmabWPutM
import Derived.Test.YtpfhegengmlkmabWLastWalk
namespace Go.Proofs.Ytpfhegengmlkmab
open Go.RowKit Go.BigFrame
set_option maxRecDepth 100000

set_option maxHeartbeats 12800000 in
theorem lawWPut_any (a : Option Addr) (cap : Nat) (l : List ItemL) (x : Int) (am : Option Addr) (cm : Nat) (m : List (ByteArray × Int)) (w : World) (hf : FitI l) (hr : RowI w a l) (hfm : FitM m) (hrm : Row w am m) :
    Calls Try.prog 11 #[.slice a l.length cap, .agg #[.int .i64 x, .slice am m.length cm]] w fun e w' => e = .returned (.bool true) ∧ Below w.heap.size w w' := by
  have B0 : Below w.heap.size w (w.alloc (.cells #[.int .i64 x, .slice am m.length cm] 52)) := (Below.refl _ _).alloc (Nat.le_refl _) _
  have d0 := box0 w (.int .i64 x) (.slice am m.length cm) 52
  have d1 := box1 w (.int .i64 x) (.slice am m.length cm) 52
  have zh := box_lt w (.cells #[.int .i64 x, .slice am m.length cm] 52)
  go_enter Try.func11, Try.ntmps11
  go_wp2_with fail
  generalize w.alloc (.cells #[.int .i64 x, .slice am m.length cm] 52) = W0 at *
  refine (szItemS_w a cap l 1048576 _ (hr.below B0) hf (by omega) (by omega)).mono ?_
  rintro e w1 ⟨r, rfl, hr0, hr1, hr2, b1⟩
  have HR2 : Hid (0 ≤ r → r + (l.length : Int) + (lens l : Int) ≤ 1048576 ∧ SmallI 1048576 l) := hr2
  have B1 : Below w.heap.size w w1 := B0.trans (b1.mono B0.size)
  replace d0 := cell_on b1 (by omega) d0
  replace d1 := cell_on b1 (by omega) d1
  have z1 := b1.size
  clear hr2 b1 B0
  by_cases hneg : r < 0
  · go_wp2_with fail
    go_ret
    exact ⟨rfl, B1⟩
  have hsum := (HR2.out (by omega)).1
  have hsml := (HR2.out (by omega)).2
  have hL : l.length ≤ 1048576 := by omega
  have hS : ∀ j, (h : j < l.length) → l[j].2.length ≤ 1048576 := fun j hj => by have := (hsml.2 j hj).1; omega
  clear HR2 hsml
  go_wp2_with fail
  refine (szItem_w x am cm m r _ (hrm.below B1) hfm (by omega) (by omega)).mono ?_
  rintro e w2 ⟨r2, rfl, hq0, hq1, hq2, b2⟩
  have HQ2 : Hid (0 ≤ r2 → r2 + (m.length : Int) ≤ r ∧ SmallM r m) := hq2
  have B2 : Below w.heap.size w w2 := B1.trans (b2.mono B1.size)
  replace d0 := cell_on b2 (by omega) d0
  replace d1 := cell_on b2 (by omega) d1
  have z2 := b2.size
  clear hq2 b2 B1
  by_cases hneg2 : r2 < 0
  · go_wp2_with fail
    go_ret
    exact ⟨rfl, B2⟩
  have hsum2 := (HQ2.out (by omega)).1
  have hM : m.length ≤ 1048576 := by omega
  clear HQ2
  go_wp2_with fail
  have SW : (w2.drew).cell? ⟨w.heap.size, 0, none⟩ = some (.int .i64 x) ∧ (w2.drew).cell? ⟨w.heap.size, 1, none⟩ = some (.slice am m.length cm) := ⟨d0, d1⟩
  refine wp_region_held_drew (S := fun u => u.cell? ⟨w.heap.size, 0, none⟩ = some (.int .i64 x) ∧ u.cell? ⟨w.heap.size, 1, none⟩ = some (.slice am m.length cm)) (by kernel_rfl) SW (fun _ => ?_)
  refine wpAnyH_take (i := 0) (v := .slice a l.length cap) rfl (by kernel_rfl) (by kernel_rfl) (by kernel_rfl) (fun _ _ _ h => h) (Or.inl ⟨by rfl, ?_⟩) SW ?_
  · rintro u ⟨q1, q2⟩
    go_simp
  simp only [Act.put, List.setIfInBounds_toArray]
  refine wpAnyH_take (i := 2) (v := .agg #[.int .i64 x, .slice am m.length cm]) rfl (by kernel_rfl) (by kernel_rfl) (by kernel_rfl) (fun _ _ _ h => h) (Or.inl ⟨by rfl, ?_⟩) SW ?_
  · rintro u ⟨q1, q2⟩
    go_simp
  simp only [Act.put]
  refine wpAnyH_ready (rs := [1]) (by kernel_rfl) (by simp) ?_
  refine AllReadyH.cons rfl (fun K hK => ?_) AllReadyH.nil
  rw [if_pos (by rfl)]
  go_simp
  replace B2 := B2.drew
  generalize w2.drew = W2 at *
  refine (toItemS_any a cap l _ hL hS (hr.below B2)).mono ?_
  rintro e w3 ⟨rfl, hp3, b3⟩
  have B3 : Below w.heap.size w w3 := B2.trans (b3.mono B2.size)
  have S3 : w3.cell? ⟨w.heap.size, 0, none⟩ = some (.int .i64 x) ∧ w3.cell? ⟨w.heap.size, 1, none⟩ = some (.slice am m.length cm) := ⟨cell_on b3 (block_lt_of_cell SW.1) SW.1, cell_on b3 (block_lt_of_cell SW.1) SW.2⟩
  have z3 := b3.size
  refine hK.out _ _ S3 (fun _ => ?_)
  clear hK K b3 SW
  refine wpAnyH_ready (rs := [3]) (by kernel_rfl) (by simp) ?_
  refine AllReadyH.cons rfl (fun K hK => ?_) AllReadyH.nil
  rw [if_pos (by rfl)]
  go_simp
  refine (toItem_any x am cm m _ (hrm.below B3) hM).mono ?_
  rintro e w4 ⟨⟨g4, hg4, rfl, ho4⟩, b4⟩
  have B4 : Below w.heap.size w w4 := B3.trans (b4.mono B3.size)
  replace hp3 := hp3.below b4
  have S4 : w4.cell? ⟨w.heap.size, 0, none⟩ = some (.int .i64 x) ∧ w4.cell? ⟨w.heap.size, 1, none⟩ = some (.slice am m.length cm) := ⟨cell_on b4 (block_lt_of_cell S3.1) S3.1, cell_on b4 (block_lt_of_cell S3.1) S3.2⟩
  have z4 := b4.size
  refine hK.out _ _ S4 (fun _ => ?_)
  clear hK K b4 S3 B3
  refine wpAnyH_ready (rs := [4]) (by kernel_rfl) (by simp) ?_
  refine AllReadyH.cons rfl (fun K hK => ?_) AllReadyH.nil
  rw [if_pos (by rfl)]
  go_simp
  refine (specPut_any _ _ l x _ _ m _ hf hp3.row hfm ho4.row).mono ?_
  rintro e w5 ⟨⟨v5, rr, c, rfl, hP, hg5⟩, b5⟩
  obtain ⟨aw, cw, rfl, hcw, hsw⟩ := hg5.safe
  have B5 : Below w.heap.size w w5 := B4.trans (b5.mono B4.size)
  have S5 : w5.cell? ⟨w.heap.size, 0, none⟩ = some (.int .i64 x) ∧ w5.cell? ⟨w.heap.size, 1, none⟩ = some (.slice am m.length cm) := ⟨cell_on b5 (block_lt_of_cell S4.1) S4.1, cell_on b5 (block_lt_of_cell S4.1) S4.2⟩
  have z5 := b5.size
  have HP : Hid (IsP l x m rr c) := hP
  have hfr := (isP_stamps hP).fit
  have hsr := (isP_stamps hP).small
  have hlr := (isP_stamps hP).lens
  have hrr := (isP_stamps hP).1
  refine hK.out _ _ S5 (fun _ => ?_)
  clear hK K b5 B4 hp3 ho4 hg5 hP S4
  refine wpAnyH_take (i := 5) (v := .tuple #[.slice aw rr.length cw, .int .i64 c]) rfl (by kernel_rfl) (by kernel_rfl) (by kernel_rfl) (fun _ _ _ h => h) (Or.inl ⟨by rfl, ?_⟩) S5 ?_
  · rintro u ⟨q1, q2⟩
    go_simp
  simp only [Act.put, List.setIfInBounds_toArray]
  refine wpAnyH_take (i := 6) (v := .slice aw rr.length cw) rfl (by kernel_rfl) (by kernel_rfl) (by kernel_rfl) (fun _ _ _ h => h) (Or.inl ⟨by rfl, ?_⟩) S5 ?_
  · rintro u ⟨q1, q2⟩
    go_simp
  simp only [Act.put]
  refine wpAnyH_take (i := 7) (v := .int .i64 c) rfl (by kernel_rfl) (by kernel_rfl) (by kernel_rfl) (fun _ _ _ h => h) (Or.inl ⟨by rfl, ?_⟩) S5 ?_
  · rintro u ⟨q1, q2⟩
    go_simp
  simp only [Act.put]
  refine wpAnyH_ready (rs := [8]) (by kernel_rfl) (by simp) ?_
  refine AllReadyH.cons rfl (fun K hK => ?_) AllReadyH.nil
  rw [if_pos (by rfl)]
  go_simp
  refine hK.out _ _ S5 (fun _ => ?_)
  clear hK K
  refine wpAnyH_ready (rs := [9]) (by kernel_rfl) (by simp) ?_
  refine AllReadyH.cons rfl (fun K hK => ?_) AllReadyH.nil
  rw [if_pos (by rfl)]
  go_simp
  refine hK.out _ _ S5 (fun _ => ?_)
  clear hK K
  refine wpAnyH_done (by kernel_rfl) ?_ _
  go_wp2_with fail
  clear d0 d1
  have d0 := S5.1
  have d1 := S5.2
  have zh5 := block_lt_of_cell d0
  clear S5
  refine (toItemS_any a cap l _ hL hS (hr.below B5)).mono ?_
  rintro e w6 ⟨rfl, hp6, b6⟩
  have B6 : Below w.heap.size w w6 := B5.trans (b6.mono B5.size)
  replace hsw := hsw.below b6
  replace d0 := cell_on b6 (by omega) d0
  replace d1 := cell_on b6 (by omega) d1
  have z6 : w5.heap.size < w6.heap.size := hp6.lt
  clear b6 B5
  go_wp2_with fail
  refine (toItem_any x am cm m _ (hrm.below B6) hM).mono ?_
  rintro e w7 ⟨⟨g7, hg7, rfl, ho7⟩, b7⟩
  have B7 : Below w.heap.size w w7 := B6.trans (b7.mono B6.size)
  have hs7 : Safe w7 w6.heap.size w7.heap.size (some ⟨g7, 0, none⟩) m := ho7.safe hg7
  replace hsw := hsw.below b7
  replace hp6 := hp6.below b7
  replace d0 := cell_on b7 (by omega) d0
  replace d1 := cell_on b7 (by omega) d1
  have z7 := b7.size
  clear b7 B6 ho7
  have zh7 : w.heap.size < w7.heap.size := by omega
  go_wp2_with fail
  have y0 := box0 w7 (.int .i64 x) (.slice (some ⟨g7, 0, none⟩) m.length m.length) 57
  have y1 := box1 w7 (.int .i64 x) (.slice (some ⟨g7, 0, none⟩) m.length m.length) 57
  have zx := box_lt w7 (.cells #[.int .i64 x, .slice (some ⟨g7, 0, none⟩) m.length m.length] 57)
  have b8 : Below w7.heap.size w7 (w7.alloc (.cells #[.int .i64 x, .slice (some ⟨g7, 0, none⟩) m.length m.length] 57)) := (Below.refl _ _).alloc (Nat.le_refl _) _
  have B8 : Below w.heap.size w (w7.alloc (.cells #[.int .i64 x, .slice (some ⟨g7, 0, none⟩) m.length m.length] 57)) := B7.trans (b8.mono B7.size)
  replace hsw := hsw.below b8
  replace hp6 := hp6.below b8
  replace hs7 := hs7.below b8
  replace d0 := cell_on b8 (by omega) d0
  replace d1 := cell_on b8 (by omega) d1
  generalize w7.alloc (.cells #[.int .i64 x, .slice (some ⟨g7, 0, none⟩) m.length m.length] 57) = W8 at *
  generalize w7.heap.size = bx at *
  generalize w6.heap.size = hx at *
  generalize w5.heap.size = lx at *
  generalize w4.heap.size = lw at *
  clear b8 B7
  refine (implPut_any _ _ l x _ _ m _ hf hp6.row hfm (Nat.le_refl _) hs7.row).mono ?_
  rintro e w9 ⟨⟨v9, rr', c', rfl, hP', hg9⟩, b9⟩
  obtain ⟨rfl, rfl⟩ := HP.out.one hP'
  obtain ⟨ag, cg, rfl, hcg, hsg⟩ := hg9.safe
  have B9 : Below w.heap.size w w9 := B8.trans (b9.mono B8.size)
  replace hsw := hsw.below b9
  replace hp6 := hp6.below b9
  replace hs7 := hs7.below b9
  replace d0 := cell_on b9 (by omega) d0
  replace d1 := cell_on b9 (by omega) d1
  replace y0 := cell_on b9 (by omega) y0
  replace y1 := cell_on b9 (by omega) y1
  have z9 := b9.size
  generalize W8.heap.size = lg at *
  obtain ⟨hg, hhg, hhg', hsg⟩ : ∃ q, q ≤ w9.heap.size ∧ w9.heap.size ≤ q ∧ SafeI w9 lg q ag rr := ⟨_, Nat.le_refl _, Nat.le_refl _, hsg⟩
  clear b9 B8 hP' hg9
  go_wp2_with fail
  refine (eqItemS_same _ _ _ _ rr _ hfr hsg.row hsw.row).mono ?_
  rintro e w10 ⟨rfl, b10⟩
  have B10 : Below w.heap.size w w10 := B9.trans (b10.mono B9.size)
  replace hsw := hsw.below b10
  replace hp6 := hp6.below b10
  replace hs7 := hs7.below b10
  replace hsg := hsg.below b10
  replace d0 := cell_on b10 (by omega) d0
  replace d1 := cell_on b10 (by omega) d1
  replace y0 := cell_on b10 (by omega) y0
  replace y1 := cell_on b10 (by omega) y1
  have z10 := b10.size
  clear b10 B9
  go_wp2_with fail
  refine (toItemS_any a cap l _ hL hS (hr.below B10)).mono ?_
  rintro e w11 ⟨rfl, hp11, b11⟩
  have B11 : Below w.heap.size w w11 := B10.trans (b11.mono B10.size)
  replace hsw := hsw.below b11
  replace hp6 := hp6.below b11
  replace hs7 := hs7.below b11
  replace hsg := hsg.below b11
  replace d0 := cell_on b11 (by omega) d0
  replace d1 := cell_on b11 (by omega) d1
  replace y0 := cell_on b11 (by omega) y0
  replace y1 := cell_on b11 (by omega) y1
  have z11 := b11.size
  clear b11 B10
  go_wp2_with fail
  refine (eqItemS_same _ _ _ _ l _ hf hp6.row hp11.row).mono ?_
  rintro e w12 ⟨rfl, b12⟩
  have B12 : Below w.heap.size w w12 := B11.trans (b12.mono B11.size)
  replace hsw := hsw.below b12
  replace hp6 := hp6.below b12
  replace hs7 := hs7.below b12
  replace hsg := hsg.below b12
  replace d0 := cell_on b12 (by omega) d0
  replace d1 := cell_on b12 (by omega) d1
  replace y0 := cell_on b12 (by omega) y0
  replace y1 := cell_on b12 (by omega) y1
  have z12 := b12.size
  clear b12 B11 hp11
  go_wp2_with fail
  have bd : Below w12.heap.size w12 w12.drew := (Below.refl _ _).drew
  replace B12 := B12.drew
  replace hsw := hsw.below bd
  replace hp6 := hp6.below bd
  replace hs7 := hs7.below bd
  replace hsg := hsg.below bd
  replace d0 := cell_on bd (by omega) d0
  replace d1 := cell_on bd (by omega) d1
  replace y0 := cell_on bd (by omega) y0
  replace y1 := cell_on bd (by omega) y1
  have z12d : w12.heap.size ≤ w12.drew.heap.size := Nat.le_refl _
  have SW : (w12.drew).cell? ⟨w.heap.size, 0, none⟩ = some (.int .i64 x) ∧ (w12.drew).cell? ⟨w.heap.size, 1, none⟩ = some (.slice am m.length cm) ∧ (w12.drew).cell? ⟨bx, 0, none⟩ = some (.int .i64 x) ∧ (w12.drew).cell? ⟨bx, 1, none⟩ = some (.slice (some ⟨g7, 0, none⟩) m.length m.length) := ⟨d0, d1, y0, y1⟩
  refine wp_region_held_drew (S := fun u => u.cell? ⟨w.heap.size, 0, none⟩ = some (.int .i64 x) ∧ u.cell? ⟨w.heap.size, 1, none⟩ = some (.slice am m.length cm) ∧ u.cell? ⟨bx, 0, none⟩ = some (.int .i64 x) ∧ u.cell? ⟨bx, 1, none⟩ = some (.slice (some ⟨g7, 0, none⟩) m.length m.length)) (by kernel_rfl) SW (fun _ => ?_)
  refine wpAnyH_take (i := 0) (v := .agg #[.int .i64 x, .slice (some ⟨g7, 0, none⟩) m.length m.length]) rfl (by kernel_rfl) (by kernel_rfl) (by kernel_rfl) (fun _ _ _ h => h) (Or.inl ⟨by rfl, ?_⟩) SW ?_
  · rintro u ⟨q1, q2, q3, q4⟩
    go_simp
  simp only [Act.put, List.setIfInBounds_toArray]
  refine wpAnyH_take (i := 1) (v := .agg #[.int .i64 x, .slice am m.length cm]) rfl (by kernel_rfl) (by kernel_rfl) (by kernel_rfl) (fun _ _ _ h => h) (Or.inl ⟨by rfl, ?_⟩) SW ?_
  · rintro u ⟨q1, q2, q3, q4⟩
    go_simp
  simp only [Act.put]
  refine wpAnyH_ready (rs := [2]) (by kernel_rfl) (by simp) ?_
  refine AllReadyH.cons rfl (fun K hK => ?_) AllReadyH.nil
  rw [if_pos (by rfl)]
  go_simp
  generalize w12.drew = W12 at *
  refine (toItem_any x am cm m _ (hrm.below B12) hM).mono ?_
  rintro e w13 ⟨⟨g13, hg13, rfl, ho13⟩, b13⟩
  have B13 : Below w.heap.size w w13 := B12.trans (b13.mono B12.size)
  replace hsw := hsw.below b13
  replace hp6 := hp6.below b13
  replace hs7 := hs7.below b13
  replace hsg := hsg.below b13
  replace d0 := cell_on b13 (by omega) d0
  replace d1 := cell_on b13 (by omega) d1
  replace y0 := cell_on b13 (by omega) y0
  replace y1 := cell_on b13 (by omega) y1
  have z13 := b13.size
  have S13 : w13.cell? ⟨w.heap.size, 0, none⟩ = some (.int .i64 x) ∧ w13.cell? ⟨w.heap.size, 1, none⟩ = some (.slice am m.length cm) ∧ w13.cell? ⟨bx, 0, none⟩ = some (.int .i64 x) ∧ w13.cell? ⟨bx, 1, none⟩ = some (.slice (some ⟨g7, 0, none⟩) m.length m.length) := ⟨d0, d1, y0, y1⟩
  refine hK.out _ _ S13 (fun _ => ?_)
  clear hK K b13 B12 SW bd
  refine wpAnyH_ready (rs := [3]) (by kernel_rfl) (by simp) ?_
  refine AllReadyH.cons rfl (fun K hK => ?_) AllReadyH.nil
  rw [if_pos (by rfl)]
  go_simp
  refine (eqItem_same x _ _ _ _ m _ hfm.1 hs7.row ho13.row).mono ?_
  rintro e w14 ⟨rfl, b14⟩
  have B14 : Below w.heap.size w w14 := B13.trans (b14.mono B13.size)
  replace hsw := hsw.below b14
  replace hp6 := hp6.below b14
  replace hs7 := hs7.below b14
  replace hsg := hsg.below b14
  replace d0 := cell_on b14 (by omega) d0
  replace d1 := cell_on b14 (by omega) d1
  replace y0 := cell_on b14 (by omega) y0
  replace y1 := cell_on b14 (by omega) y1
  have z14 := b14.size
  have S14 : w14.cell? ⟨w.heap.size, 0, none⟩ = some (.int .i64 x) ∧ w14.cell? ⟨w.heap.size, 1, none⟩ = some (.slice am m.length cm) ∧ w14.cell? ⟨bx, 0, none⟩ = some (.int .i64 x) ∧ w14.cell? ⟨bx, 1, none⟩ = some (.slice (some ⟨g7, 0, none⟩) m.length m.length) := ⟨d0, d1, y0, y1⟩
  refine hK.out _ _ S14 (fun _ => ?_)
  clear hK K b14 B13 S13 ho13
  refine wpAnyH_take (i := 4) (v := .bool false) rfl (by kernel_rfl) (by kernel_rfl) (by kernel_rfl) (fun _ _ _ h => h) (Or.inl ⟨by rfl, ?_⟩) S14 ?_
  · rintro u ⟨q1, q2, q3, q4⟩
    go_simp
  simp only [Act.put, List.setIfInBounds_toArray]
  refine wpAnyH_done (by kernel_rfl) ?_ _
  clear S14
  go_wp2_with fail
  refine (markItemS_any lx l.length lx hx l 1 _ hL (Nat.le_refl _) z6 (by omega) (by omega) hS hp6).mono ?_
  rintro e w15 ⟨rfl, _, s15⟩
  have B15 : Below w.heap.size w w15 := B14.trans (s15.below (by omega) B14.size)
  replace hsw := hsw.span s15 (by omega)
  replace hsg := hsg.span s15 (by omega)
  replace hs7 := hs7.span s15 (by omega)
  replace d0 := s15.cell d0 (by omega)
  replace d1 := s15.cell d1 (by omega)
  replace y0 := s15.cell y0 (by omega)
  replace y1 := s15.cell y1 (by omega)
  have z15 := s15.size
  clear s15 B14 hp6
  go_wp2_with fail
  refine (markItem_any x (some ⟨g7, 0, none⟩) m.length hx bx m (1 + (l.length : Int) + 2 * (lens l : Int)) _ hM (by omega) (by omega) hs7).mono ?_
  rintro e w16 ⟨rfl, _, s16⟩
  have B16 : Below w.heap.size w w16 := B15.trans (s16.below (by omega) B15.size)
  replace hsw := hsw.span s16 (by omega)
  replace hsg := hsg.span s16 (by omega)
  replace d0 := s16.cell d0 (by omega)
  replace d1 := s16.cell d1 (by omega)
  have z16 := s16.size
  clear s16 B15 hs7 y0 y1
  go_wp2_with fail
  refine (eqItemS_same _ _ _ _ rr _ hfr hsg.row hsw.row).mono ?_
  rintro e w17 ⟨rfl, b17⟩
  have B17 : Below w.heap.size w w17 := B16.trans (b17.mono B16.size)
  replace hsw := hsw.below b17
  replace hsg := hsg.below b17
  replace d0 := cell_on b17 (by omega) d0
  replace d1 := cell_on b17 (by omega) d1
  have z17 := b17.size
  clear b17 B16
  go_wp2_with fail
  refine (markSafeI_any ag cg lg hg rr 1 _ hsr (by omega) (by omega) hsg).mono ?_
  rintro e w18 ⟨rfl, hsk, s18⟩
  have B18 : Below w.heap.size w w18 := B17.trans (s18.below (by omega) B17.size)
  replace hsw := hsw.span s18 (by omega)
  replace d0 := s18.cell d0 (by omega)
  replace d1 := s18.cell d1 (by omega)
  have z18 := s18.size
  clear s18 B17 hsg
  go_wp2_with fail
  refine (heldItemS_any ag cg rr 1 _ hsr.1 (by omega) (by omega) hsr.2 hsk.row).mono ?_
  rintro e w19 ⟨rfl, b19⟩
  have B19 : Below w.heap.size w w19 := B18.trans (b19.mono B18.size)
  replace hsw := hsw.below b19
  replace hsk := hsk.below b19
  replace d0 := cell_on b19 (by omega) d0
  replace d1 := cell_on b19 (by omega) d1
  have z19 := b19.size
  clear b19 B18
  go_wp2_with fail
  have bd : Below w19.heap.size w19 w19.drew := (Below.refl _ _).drew
  replace B19 := B19.drew
  replace hsw := hsw.below bd
  replace hsk := hsk.below bd
  replace d0 := cell_on bd (by omega) d0
  replace d1 := cell_on bd (by omega) d1
  have SW : (w19.drew).cell? ⟨w.heap.size, 0, none⟩ = some (.int .i64 x) ∧ (w19.drew).cell? ⟨w.heap.size, 1, none⟩ = some (.slice am m.length cm) := ⟨d0, d1⟩
  refine wp_region_held_drew (S := fun u => u.cell? ⟨w.heap.size, 0, none⟩ = some (.int .i64 x) ∧ u.cell? ⟨w.heap.size, 1, none⟩ = some (.slice am m.length cm)) (by kernel_rfl) SW (fun _ => ?_)
  refine wpAnyH_take (i := 0) (v := .slice a l.length cap) rfl (by kernel_rfl) (by kernel_rfl) (by kernel_rfl) (fun _ _ _ h => h) (Or.inl ⟨by rfl, ?_⟩) SW ?_
  · rintro u ⟨q1, q2⟩
    go_simp
  simp only [Act.put, List.setIfInBounds_toArray]
  refine wpAnyH_take (i := 2) (v := .agg #[.int .i64 x, .slice am m.length cm]) rfl (by kernel_rfl) (by kernel_rfl) (by kernel_rfl) (fun _ _ _ h => h) (Or.inl ⟨by rfl, ?_⟩) SW ?_
  · rintro u ⟨q1, q2⟩
    go_simp
  simp only [Act.put]
  refine wpAnyH_ready (rs := [1]) (by kernel_rfl) (by simp) ?_
  refine AllReadyH.cons rfl (fun K hK => ?_) AllReadyH.nil
  rw [if_pos (by rfl)]
  go_simp
  have z19d : w19.heap.size ≤ w19.drew.heap.size := Nat.le_refl _
  generalize w19.drew = W19 at *
  refine (toItemS_any a cap l _ hL hS (hr.below B19)).mono ?_
  rintro e w20 ⟨rfl, hp20, b20⟩
  have B20 : Below w.heap.size w w20 := B19.trans (b20.mono B19.size)
  replace hsw := hsw.below b20
  replace hsk := hsk.below b20
  replace d0 := cell_on b20 (by omega) d0
  replace d1 := cell_on b20 (by omega) d1
  have z20 := b20.size
  have S20 : w20.cell? ⟨w.heap.size, 0, none⟩ = some (.int .i64 x) ∧ w20.cell? ⟨w.heap.size, 1, none⟩ = some (.slice am m.length cm) := ⟨d0, d1⟩
  refine hK.out _ _ S20 (fun _ => ?_)
  clear hK K b20 B19 SW bd
  refine wpAnyH_ready (rs := [3]) (by kernel_rfl) (by simp) ?_
  refine AllReadyH.cons rfl (fun K hK => ?_) AllReadyH.nil
  rw [if_pos (by rfl)]
  go_simp
  refine (toItem_any x am cm m _ (hrm.below B20) hM).mono ?_
  rintro e w21 ⟨⟨g21, hg21, rfl, ho21⟩, b21⟩
  have B21 : Below w.heap.size w w21 := B20.trans (b21.mono B20.size)
  replace hsw := hsw.below b21
  replace hsk := hsk.below b21
  replace hp20 := hp20.below b21
  replace d0 := cell_on b21 (by omega) d0
  replace d1 := cell_on b21 (by omega) d1
  have z21 := b21.size
  have S21 : w21.cell? ⟨w.heap.size, 0, none⟩ = some (.int .i64 x) ∧ w21.cell? ⟨w.heap.size, 1, none⟩ = some (.slice am m.length cm) := ⟨d0, d1⟩
  refine hK.out _ _ S21 (fun _ => ?_)
  clear hK K b21 B20 S20
  refine wpAnyH_ready (rs := [4]) (by kernel_rfl) (by simp) ?_
  refine AllReadyH.cons rfl (fun K hK => ?_) AllReadyH.nil
  rw [if_pos (by rfl)]
  go_simp
  refine (implPut_any _ _ l x _ _ m _ hf hp20.row hfm (Nat.le_refl _) ho21.row).mono ?_
  rintro e w22 ⟨⟨v22, rr', c', rfl, hP', hg22⟩, b22⟩
  obtain ⟨rfl, rfl⟩ := HP.out.one hP'
  obtain ⟨ah, ch, rfl, hch, hsh⟩ := hg22.safe
  have B22 : Below w.heap.size w w22 := B21.trans (b22.mono B21.size)
  replace hsw := hsw.below b22
  replace hsk := hsk.below b22
  replace d0 := cell_on b22 (by omega) d0
  replace d1 := cell_on b22 (by omega) d1
  have z22 := b22.size
  have S22 : w22.cell? ⟨w.heap.size, 0, none⟩ = some (.int .i64 x) ∧ w22.cell? ⟨w.heap.size, 1, none⟩ = some (.slice am m.length cm) := ⟨d0, d1⟩
  refine hK.out _ _ S22 (fun _ => ?_)
  clear hK K b22 B21 S21 hP' hg22 hp20 ho21
  refine wpAnyH_take (i := 5) (v := .tuple #[.slice ah rr.length ch, .int .i64 c]) rfl (by kernel_rfl) (by kernel_rfl) (by kernel_rfl) (fun _ _ _ h => h) (Or.inl ⟨by rfl, ?_⟩) S22 ?_
  · rintro u ⟨q1, q2⟩
    go_simp
  simp only [Act.put, List.setIfInBounds_toArray]
  refine wpAnyH_take (i := 6) (v := .slice ah rr.length ch) rfl (by kernel_rfl) (by kernel_rfl) (by kernel_rfl) (fun _ _ _ h => h) (Or.inl ⟨by rfl, ?_⟩) S22 ?_
  · rintro u ⟨q1, q2⟩
    go_simp
  simp only [Act.put]
  refine wpAnyH_take (i := 7) (v := .int .i64 c) rfl (by kernel_rfl) (by kernel_rfl) (by kernel_rfl) (fun _ _ _ h => h) (Or.inl ⟨by rfl, ?_⟩) S22 ?_
  · rintro u ⟨q1, q2⟩
    go_simp
  simp only [Act.put]
  refine wpAnyH_ready (rs := [8]) (by kernel_rfl) (by simp) ?_
  refine AllReadyH.cons rfl (fun K hK => ?_) AllReadyH.nil
  rw [if_pos (by rfl)]
  go_simp
  refine hK.out _ _ S22 (fun _ => ?_)
  clear hK K
  refine wpAnyH_ready (rs := [9]) (by kernel_rfl) (by simp) ?_
  refine AllReadyH.cons rfl (fun K hK => ?_) AllReadyH.nil
  rw [if_pos (by rfl)]
  go_simp
  refine hK.out _ _ S22 (fun _ => ?_)
  clear hK K
  refine wpAnyH_done (by kernel_rfl) ?_ _
  clear S22 d0 d1
  go_wp2_with fail
  refine (eqItemS_same _ _ _ _ rr _ hfr hsh.row hsw.row).mono ?_
  rintro e w23 ⟨rfl, b23⟩
  have B23 : Below w.heap.size w w23 := B22.trans (b23.mono B22.size)
  replace hsk := hsk.below b23
  clear b23 B22 hsh hsw
  go_wp2_with fail
  refine (heldItemS_any ag cg rr 1 _ hsr.1 (by omega) (by omega) hsr.2 hsk.row).mono ?_
  rintro e w24 ⟨rfl, b24⟩
  have B24 : Below w.heap.size w w24 := B23.trans (b24.mono B23.size)
  go_wp2_with fail
  go_ret
  exact ⟨rfl, B24⟩

end Go.Proofs.Ytpfhegengmlkmab
