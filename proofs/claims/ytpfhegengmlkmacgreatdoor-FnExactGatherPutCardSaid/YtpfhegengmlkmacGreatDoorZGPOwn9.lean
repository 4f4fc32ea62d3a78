/- Texts of this claim, one behind the other. -/
import Derived.Test.YtpfhegengmlkmacGreatDoorZGPOwn8
/- The walk of the law FnExactGatherPut. -/
namespace Go.Proofs.YtpfhegengmlkmacGreatDoor
open Go.RowKit Go.BigFrame
set_option maxRecDepth 100000

set_option maxHeartbeats 25600000 in
theorem lawGP_any (a0 a1 a2 am : Option Addr) (c0 c1 c2 cm : Nat) (g : GatL) (i x : Int) (m : List (ByteArray × Int)) (w : World) (hf : FitG g) (r0 : RowS w a0 g.ins) (r1 : RowW w a1 g.wins) (r2 : Row w a2 g.shown) (hfm : FitM m) (rm : Row w am m) (het : ErrT w) :
    Calls Tryz.prog 3 #[.agg #[.slice a0 g.ins.length c0, .slice a1 g.wins.length c1, .slice a2 g.shown.length c2], .agg #[.int .i64 i, .int .i64 x, .slice am m.length cm]] w fun e w' => e = .returned (.bool true) ∧ Below w.heap.size w w' := by
  obtain ⟨W0, hW0⟩ : ∃ W0, (w.alloc (.cells #[.slice a0 g.ins.length c0, .slice a1 g.wins.length c1, .slice a2 g.shown.length c2] 26)).alloc (.cells #[.int .i64 i, .int .i64 x, .slice am m.length cm] 30) = W0 := ⟨_, rfl⟩
  have hz : W0.heap.size = w.heap.size + 2 := by rw [← hW0]; simp
  have B : Below w.heap.size w W0 := by rw [← hW0]; exact ((Below.refl _ _).alloc (Nat.le_refl _) _).alloc (by simp) _
  have tA : Tri W0 w.heap.size (.slice a0 g.ins.length c0) (.slice a1 g.wins.length c1) (.slice a2 g.shown.length c2) := by rw [← hW0]; constructor <;> simp [go_sem]
  have tF : Tri W0 (w.heap.size + 1) (.int .i64 i) (.int .i64 x) (.slice am m.length cm) := by rw [← hW0]; constructor <;> simp [go_sem]
  have HW : Hid (((w.alloc (.cells #[.slice a0 g.ins.length c0, .slice a1 g.wins.length c1, .slice a2 g.shown.length c2] 26)).alloc (.cells #[.int .i64 i, .int .i64 x, .slice am m.length cm] 30)) = W0) := hW0
  clear hW0
  go_enter Tryz.func3, Tryz.ntmps3
  go_wp2_with fail
  rw [HW.out]
  clear HW
  refine (szGather_w a0 a1 a2 c0 c1 c2 g 1048576 _ (r0.below B) (r1.below B) (r2.below B) hf (by omega) (by omega)).mono ?_
  rintro e w1 ⟨r, rfl, hr0, hr1, hr2, b1⟩
  have HS : Hid (0 ≤ r → SmallG 1048576 g ∧ (lensW g.wins : Int) ≤ 1048576) := hr2
  clear hr2
  replace tA := tA.keep b1
  replace tF := tF.keep b1
  replace B : Below w.heap.size w w1 := B.trans (b1.mono B.size)
  have yy1 := b1.size
  clear b1
  by_cases hneg : r < 0
  · go_wp2_with fail
    go_ret
    exact ⟨rfl, B⟩
  have HSG : Hid (SmallG 1048576 g ∧ (lensW g.wins : Int) ≤ 1048576) := HS.out (by omega)
  clear HS
  obtain ⟨tA0, tA1, tA2, _, _, _⟩ := id tA
  obtain ⟨tF0, tF1, tF2, _, _, _⟩ := id tF
  go_wp2_with fail
  refine (szFeed_any i x am cm m r _ (rm.below B) hfm (by omega) (by omega)).mono ?_
  rintro e w2 ⟨q, rfl, hq0, hq1, hq2, b2⟩
  have HM0 : Hid (0 ≤ q → SmallM r m) := hq2
  clear hq2
  clear tA0 tA1 tA2 tF0 tF1 tF2
  replace tA := tA.keep b2
  replace tF := tF.keep b2
  replace B : Below w.heap.size w w2 := B.trans (b2.mono B.size)
  have yy2 := b2.size
  clear b2
  by_cases hneg2 : q < 0
  · go_wp2_with fail
    go_ret
    exact ⟨rfl, B⟩
  have hml : m.length ≤ 1048576 := by have := (HM0.out (by omega)).1; omega
  clear HM0
  have hil : g.ins.length ≤ 1048576 := by have := HSG.out.1.ins.1; omega
  obtain ⟨tA0, tA1, tA2, _, _, _⟩ := id tA
  obtain ⟨tF0, tF1, tF2, _, _, _⟩ := id tF
  go_wp2_with fail
  clear tA0 tA1 tA2 tF0 tF1 tF2
  have wAl : w.heap.size < w2.heap.size := block_lt_of_cell tA.c0
  have wFl : w.heap.size + 1 < w2.heap.size := block_lt_of_cell tF.c0
  have HSS : Hid (∀ u : World, Below w2.heap.size w2 u → u.cell? ⟨w.heap.size, 0, none⟩ = some (.slice a0 g.ins.length c0) ∧ u.cell? ⟨w.heap.size, 1, none⟩ = some (.slice a1 g.wins.length c1) ∧ u.cell? ⟨w.heap.size, 2, none⟩ = some (.slice a2 g.shown.length c2) ∧ u.cell? ⟨w.heap.size + 1, 0, none⟩ = some (.int .i64 i) ∧ u.cell? ⟨w.heap.size + 1, 1, none⟩ = some (.int .i64 x) ∧ u.cell? ⟨w.heap.size + 1, 2, none⟩ = some (.slice am m.length cm)) := fun u hu => ⟨cell_on hu wAl tA.c0, cell_on hu wAl tA.c1, cell_on hu wAl tA.c2, cell_on hu wFl tF.c0, cell_on hu wFl tF.c1, cell_on hu wFl tF.c2⟩
  refine wp_region_inv (by kernel_rfl) (by kernel_rfl) (fun f a u => ∃ (R : ResG) (b9 b10 p0 p1 p2 pl ph pf : Nat) (v6 v7 v8 v30 v31 v32 v33 v34 v35 v36 v37 v38 : Value), a = { tmps := #[Value.agg #[Value.slice a0 g.ins.length c0, Value.slice a1 g.wins.length c1, Value.slice a2 g.shown.length c2], Value.agg #[Value.int IntKind.i64 i, Value.int IntKind.i64 x, Value.slice am m.length cm], Value.pointer (some { block := w.heap.size, off := 0 }), Value.pointer (some { block := w.heap.size + 1, off := 0 }), Value.bool false, Value.int IntKind.i64 q, v6, v7, v8, undef, undef, undef, undef, undef, undef, undef, undef, undef, undef, undef, Value.agg #[Value.slice a0 g.ins.length c0, Value.slice a1 g.wins.length c1, Value.slice a2 g.shown.length c2], Value.int IntKind.i64 1048576, Value.int IntKind.i64 r, Value.int IntKind.i64 r, Value.bool (decide (r < 0)), Value.agg #[Value.int IntKind.i64 i, Value.int IntKind.i64 x, Value.slice am m.length cm], Value.int IntKind.i64 r, Value.int IntKind.i64 q, Value.int IntKind.i64 q, Value.bool (decide (q < 0)), v30, v31, v32, v33, v34, v35, v36, v37, v38, undef, undef, undef, undef, undef, undef, undef, undef, undef, undef, undef, undef, undef, undef, undef, undef, undef, undef, undef, undef, undef, undef, undef, undef, undef, undef, undef, undef, undef, undef, undef, undef, undef, undef, undef, undef, undef, undef, undef, undef, undef, undef, undef, undef, undef, undef, undef, undef, undef, undef, undef, undef, undef, undef, undef, undef, undef, undef, undef, undef, undef, undef, undef, undef, undef, undef, undef, undef, undef, undef, undef, undef, undef, undef, undef, undef, undef, undef, undef, undef, undef, undef, undef, undef, undef, undef, undef, undef, undef, undef, undef, undef, undef, undef, undef, undef, undef, undef, undef, undef, undef, undef, undef, undef, undef, undef, undef, undef, undef, undef, undef, undef, undef, undef, undef, undef, undef], defers := [] } ∧ Fx (CalS g i x m) w2 (.agg #[.slice a0 g.ins.length c0, .slice a1 g.wins.length c1, .slice a2 g.shown.length c2]) (.agg #[.int .i64 i, .int .i64 x, .slice am m.length cm]) g i x m f R b9 b10 p0 p1 p2 pl ph pf v6 v7 v8 v30 v31 v32 v33 v34 v35 v36 v37 v38 u) ?start ?step ?fin
  case start =>
    refine ⟨⟨⟨[], [], []⟩, [], [], [], 0, none, none, none, none, none, 0, 0, 0, 0, 0, 0, 0, 0, 0⟩, 0, 0, 0, 0, 0, 0, 0, 0, undef, undef, undef, undef, undef, undef, undef, undef, undef, undef, undef, undef, rfl, ?_⟩
    exact { bel := (Below.refl _ _).drew, k0 := (fun h => by cases h), k1 := (fun h => by cases h), k2 := (fun h => by cases h), k3 := (fun h => by cases h), k4 := (fun h => by cases h), k5 := (fun h => by cases h), k6 := (fun h => by cases h), k7 := (fun h => by cases h), k8 := (fun h => by cases h), k9 := (fun h => by cases h), k10 := (fun h => by cases h), k13 := (fun h => by cases h), ne := (fun h => by cases h), c4 := (fun h => by cases h), c5 := (fun h => by cases h), c6 := (fun h => by cases h), c7 := (fun h => by cases h), c8 := (fun h => by cases h), c11 := (fun h => by cases h), c12 := (fun h => by cases h), c13 := (fun h => by cases h) }
  case step =>
    rintro f a u j ⟨R, b9, b10, p0, p1, p2, pl, ph, pf, v6, v7, v8, v30, v31, v32, v33, v34, v35, v36, v37, v38, rfl, hF⟩ hj hfj hw
    obtain ⟨z0, z1, z2, z3, z4, z5⟩ := HSS.out _ hF.bel
    have hj' : j < 14 := hj
    have BW : Below w.heap.size w u := B.trans (hF.bel.mono B.size)
    have hC : ∀ R u u', CalS g i x m R u → Below u.heap.size u u' → CalS g i x m R u' := fun R u u' h hb => h.below hb
    rcases (by omega : j = 0 ∨ j = 1 ∨ j = 2 ∨ j = 3 ∨ j = 4 ∨ j = 5 ∨ j = 6 ∨ j = 7 ∨ j = 8 ∨ j = 9 ∨ j = 10 ∨ j = 11 ∨ j = 12 ∨ j = 13) with rfl | rfl | rfl | rfl | rfl | rfl | rfl | rfl | rfl | rfl | rfl | rfl | rfl | rfl
    · refine wpOp_wanted rfl (by kernel_rfl) ?_
      go_simp
      exact ⟨R, b9, b10, p0, p1, p2, pl, ph, pf, _, _, _, _, _, _, _, _, _, _, _, _, ⟨rfl, rfl, rfl, rfl, rfl, rfl, rfl, rfl, rfl, rfl, rfl, rfl⟩, { hF with k0 := fun _ => rfl }⟩
    · have h0 : f 0 = true := hw 0 (of_decide_eq_true (by kernel_rfl))
      obtain rfl := hF.k0 h0
      refine wpOp_wanted rfl (by kernel_rfl) ?_
      go_simp
      refine (toGather_any a0 a1 a2 c0 c1 c2 g _ (r0.below BW) (r1.below BW) (r2.below BW) HSG.out.1).mono ?_
      rintro e n ⟨⟨p0', p1', p2', pl', ph', rfl, _, _, _, _, hx0, hx1, hx2⟩, bx⟩
      have hF' := hF.below hC bx
      exact ⟨R, b9, b10, p0', p1', p2', pl', ph', pf, _, _, _, _, _, _, _, _, _, _, _, _, ⟨rfl, rfl, rfl, rfl, rfl, rfl, rfl, rfl, rfl, rfl, rfl, rfl⟩, { hF' with k1 := fun _ => ⟨rfl, fun _ => ⟨hx0, hx1, hx2⟩⟩, c4 := fun e => ⟨rfl, (hF.c4 e).2⟩ }⟩
    · refine wpOp_wanted rfl (by kernel_rfl) ?_
      go_simp
      exact ⟨R, b9, b10, p0, p1, p2, pl, ph, pf, _, _, _, _, _, _, _, _, _, _, _, _, ⟨rfl, rfl, rfl, rfl, rfl, rfl, rfl, rfl, rfl, rfl, rfl, rfl⟩, { hF with k2 := fun _ => rfl }⟩
    · have h2 : f 2 = true := hw 2 (of_decide_eq_true (by kernel_rfl))
      obtain rfl := hF.k2 h2
      refine wpOp_wanted rfl (by kernel_rfl) ?_
      go_simp
      refine (toFeed_any i x am cm m _ (rm.below BW) hml).mono ?_
      rintro e n ⟨⟨pf', _, rfl, hxf⟩, bx⟩
      have hF' := hF.below hC bx
      exact ⟨R, b9, b10, p0, p1, p2, pl, ph, pf', _, _, _, _, _, _, _, _, _, _, _, _, ⟨rfl, rfl, rfl, rfl, rfl, rfl, rfl, rfl, rfl, rfl, rfl, rfl⟩, { hF' with k3 := fun _ => ⟨rfl, fun _ => hxf⟩, c4 := fun e => ⟨(hF.c4 e).1, rfl⟩ }⟩
    · have h1 : f 1 = true := hw 1 (of_decide_eq_true (by kernel_rfl))
      have h3 : f 3 = true := hw 3 (of_decide_eq_true (by kernel_rfl))
      obtain ⟨rfl, hx⟩ := hF.k1 h1
      obtain ⟨rfl, hxf⟩ := hF.k3 h3
      obtain ⟨hx0, hx1, hx2⟩ := hx hfj
      replace hxf := hxf hfj
      refine wpOp_wanted rfl (by kernel_rfl) ?_
      go_simp
      refine (specGP_any (some ⟨p0, 0, none⟩) (some ⟨p1, 0, none⟩) (some ⟨p2, 0, none⟩) (some ⟨pf, 0, none⟩) g.ins.length g.wins.length g.shown.length m.length g i x m _ hf hil hx0.row hx1.row hx2.row hfm hxf.row).mono ?_
      rintro e n ⟨hE, bx⟩
      obtain ⟨R', rfl, e1, e2, hcal⟩ := hE.cal bx.size
      have hF' := hF.below hC bx
      have no5 : f 5 = true → False := fun h => by have := hF.c5 h; rw [hfj] at this; cases this
      have no6 : f 6 = true → False := fun h => by have := hF.c6 h; rw [hfj] at this; cases this
      have no7 : f 7 = true → False := fun h => by have := hF.c7 h; rw [hfj] at this; cases this
      have no8 : f 8 = true → False := fun h => by have := hF.c8 h; rw [hfj] at this; cases this
      have no11 : f 11 = true → False := fun h => by have := (hF.c11 h).1; rw [hfj] at this; cases this
      have no12 : f 12 = true → False := fun h => by have := (hF.c12 h).1; rw [hfj] at this; cases this
      have no13 : f 13 = true → False := fun h => by have := hF.c13 h; rw [hfj] at this; cases this
      have zW := hF.bel.size
      exact ⟨R', b9, b10, p0, p1, p2, pl, ph, pf, _, _, _, _, _, _, _, _, _, _, _, _, ⟨rfl, rfl, rfl, rfl, rfl, rfl, rfl, rfl, rfl, rfl, rfl, rfl⟩, { bel := hF'.bel, k0 := hF'.k0, k1 := fun e => ⟨(hF'.k1 e).1, fun e' => by cases e'⟩, k2 := hF'.k2, k3 := fun e => ⟨(hF'.k3 e).1, fun e' => by cases e'⟩, k4 := fun _ => ⟨rfl, hcal, by rw [e1]; exact zW⟩, k5 := fun e => (no5 e).elim, k6 := fun e => (no6 e).elim, k7 := fun e => (no7 e).elim, k8 := fun e => (no8 e).elim, k9 := fun e => let ⟨q0, q1, q2, q3, q4, q5⟩ := hF'.k9 e; ⟨q0, q1, q2, fun _ => .inl (by rw [e1]; exact (hF.k9 e).2.2.1), q4, fun e' => (no11 e').elim⟩, k10 := fun e => let ⟨q0, q1, q2, q3, q4, q5⟩ := hF'.k10 e; ⟨q0, q1, q2, fun _ => .inl (by rw [e1]; exact (hF.k10 e).2.2.1), q4, fun e' => (no12 e').elim⟩, k13 := fun e => (no13 e).elim, ne := hF'.ne, c4 := fun _ => ⟨h1, h3⟩, c5 := fun _ => rfl, c6 := fun _ => rfl, c7 := fun _ => rfl, c8 := fun _ => rfl, c11 := fun e => (no11 e).elim, c12 := fun e => (no12 e).elim, c13 := fun e => (no13 e).elim }⟩
    · have h4 : f 4 = true := hw 4 (of_decide_eq_true (by kernel_rfl))
      obtain ⟨rfl, _, _⟩ := hF.k4 h4
      refine wpOp_wanted rfl (by kernel_rfl) ?_
      go_simp
      exact ⟨R, b9, b10, p0, p1, p2, pl, ph, pf, _, _, _, _, _, _, _, _, _, _, _, _, ⟨rfl, rfl, rfl, rfl, rfl, rfl, rfl, rfl, rfl, rfl, rfl, rfl⟩, { hF with k5 := fun _ => rfl, c5 := fun _ => h4 }⟩
    · have h5 : f 5 = true := hw 5 (of_decide_eq_true (by kernel_rfl))
      have h4 := hF.c5 h5
      obtain rfl := hF.k5 h5
      refine wpOp_wanted rfl (by kernel_rfl) ?_
      go_simp
      exact ⟨R, b9, b10, p0, p1, p2, pl, ph, pf, _, _, _, _, _, _, _, _, _, _, _, _, ⟨rfl, rfl, rfl, rfl, rfl, rfl, rfl, rfl, rfl, rfl, rfl, rfl⟩, { hF with k6 := fun _ => rfl, c6 := fun _ => h4 }⟩
    · have h5 : f 5 = true := hw 5 (of_decide_eq_true (by kernel_rfl))
      have h4 := hF.c5 h5
      obtain rfl := hF.k5 h5
      refine wpOp_wanted rfl (by kernel_rfl) ?_
      go_simp
      exact ⟨R, b9, b10, p0, p1, p2, pl, ph, pf, _, _, _, _, _, _, _, _, _, _, _, _, ⟨rfl, rfl, rfl, rfl, rfl, rfl, rfl, rfl, rfl, rfl, rfl, rfl⟩, { hF with k7 := fun _ => rfl, c7 := fun _ => h4 }⟩
    · have h5 : f 5 = true := hw 5 (of_decide_eq_true (by kernel_rfl))
      have h4 := hF.c5 h5
      obtain rfl := hF.k5 h5
      refine wpOp_wanted rfl (by kernel_rfl) ?_
      go_simp
      exact ⟨R, b9, b10, p0, p1, p2, pl, ph, pf, _, _, _, _, _, _, _, _, _, _, _, _, ⟨rfl, rfl, rfl, rfl, rfl, rfl, rfl, rfl, rfl, rfl, rfl, rfl⟩, { hF with k8 := fun _ => rfl, c8 := fun _ => h4 }⟩
    · refine wpOp_wanted rfl (by kernel_rfl) ?_
      go_simp
      have bx : Below u.heap.size u (u.alloc (.cells #[.slice none 0 0, .slice none 0 0, .slice none 0 0] 36)) := (Below.refl _ _).alloc (Nat.le_refl _) _
      have hF' := hF.below hC bx
      have no11 : f 11 = true → False := fun h => by have := (hF.c11 h).2; rw [hfj] at this; cases this
      have hnew := tri_new u (.slice none 0 0) (.slice none 0 0) (.slice none 0 0) 36
      have zW := hF.bel.size
      exact ⟨R, u.heap.size, b10, p0, p1, p2, pl, ph, pf, _, _, _, _, _, _, _, _, _, _, _, _, ⟨rfl, rfl, rfl, rfl, rfl, rfl, rfl, rfl, rfl, rfl, rfl, rfl⟩, { hF' with k9 := fun _ => ⟨rfl, zW, by simp, fun e => .inr (hF.k4 e).2.1.o4, fun _ => hnew, fun e => (no11 e).elim⟩, ne := fun _ e => Nat.ne_of_gt (hF.k10 e).2.2.1, c11 := fun e => (no11 e).elim }⟩
    · refine wpOp_wanted rfl (by kernel_rfl) ?_
      go_simp
      have bx : Below u.heap.size u (u.alloc (.cells #[.slice none 0 0, .slice none 0 0] 39)) := (Below.refl _ _).alloc (Nat.le_refl _) _
      have hF' := hF.below hC bx
      have no12 : f 12 = true → False := fun h => by have := (hF.c12 h).2; rw [hfj] at this; cases this
      have hnew := duo_new u (.slice none 0 0) (.slice none 0 0) 39
      have zW := hF.bel.size
      exact ⟨R, b9, u.heap.size, p0, p1, p2, pl, ph, pf, _, _, _, _, _, _, _, _, _, _, _, _, ⟨rfl, rfl, rfl, rfl, rfl, rfl, rfl, rfl, rfl, rfl, rfl, rfl⟩, { hF' with k10 := fun _ => ⟨rfl, zW, by simp, fun e => .inr (hF.k4 e).2.1.o4, fun _ => hnew, fun e => (no12 e).elim⟩, ne := fun e _ => Nat.ne_of_lt (hF.k9 e).2.2.1, c12 := fun e => (no12 e).elim }⟩
    · have h9 : f 9 = true := hw 9 (of_decide_eq_true (by kernel_rfl))
      have h6 : f 6 = true := hw 6 (of_decide_eq_true (by kernel_rfl))
      have h10 : f 10 = true := hw 10 (of_decide_eq_true (by kernel_rfl))
      have h4 := hF.c6 h6
      obtain rfl := hF.k6 h6
      obtain ⟨rfl, q1, q2, q3, q4, _⟩ := hF.k9 h9
      have tt := q4 hfj
      obtain ⟨i0, i1, i2, o0, o1, o2⟩ := id tt
      refine wpOp_wanted rfl (by kernel_rfl) ?_
      go_simp
      have sx : Span b9 (b9 + 1) u (((u.setCell ⟨b9, 0, none⟩ (.slice R.s0 R.g.ins.length R.d0)).setCell ⟨b9, 1, none⟩ (.slice R.s1 R.L.length R.d1)).setCell ⟨b9, 2, none⟩ (.slice R.s2 R.g.shown.length R.d2)) := (((Span.refl _ _ _).setCell (Nat.le_refl _) (Nat.lt_succ_self _) _ _).setCell (Nat.le_refl _) (Nat.lt_succ_self _) _ _).setCell (Nat.le_refl _) (Nat.lt_succ_self _) _ _
      have tn := ((tt.set0 (.slice R.s0 R.g.ins.length R.d0)).set1 (.slice R.s1 R.L.length R.d1)).set2c (.slice R.s2 R.g.shown.length R.d2)
      have zx : (((u.setCell ⟨b9, 0, none⟩ (.slice R.s0 R.g.ins.length R.d0)).setCell ⟨b9, 1, none⟩ (.slice R.s1 R.L.length R.d1)).setCell ⟨b9, 2, none⟩ (.slice R.s2 R.g.shown.length R.d2)).heap.size = u.heap.size := by simp
      have far := q3 h4
      have ne := hF.ne h9 h10
      have hb := hF.bel.trans (sx.below q1 hF.bel.size)
      generalize (((u.setCell ⟨b9, 0, none⟩ (.slice R.s0 R.g.ins.length R.d0)).setCell ⟨b9, 1, none⟩ (.slice R.s1 R.L.length R.d1)).setCell ⟨b9, 2, none⟩ (.slice R.s2 R.g.shown.length R.d2)) = n at *
      exact ⟨R, b9, b10, p0, p1, p2, pl, ph, pf, _, _, _, _, _, _, _, _, _, _, _, _, ⟨rfl, rfl, rfl, rfl, rfl, rfl, rfl, rfl, rfl, rfl, rfl, rfl⟩, { bel := hb, k0 := hF.k0, k1 := fun e => ⟨(hF.k1 e).1, fun e' => by rw [show andDone f 11 4 = f 4 from rfl, h4] at e'; cases e'⟩, k2 := hF.k2, k3 := fun e => ⟨(hF.k3 e).1, fun e' => by rw [show andDone f 11 4 = f 4 from rfl, h4] at e'; cases e'⟩, k4 := fun e => let ⟨r0, r1, r2⟩ := hF.k4 e; ⟨r0, r1.span sx (by omega), r2⟩, k5 := hF.k5, k6 := hF.k6, k7 := hF.k7, k8 := hF.k8, k9 := fun _ => ⟨rfl, q1, by omega, fun _ => far, (fun e => by cases e), fun _ => tn⟩, k10 := fun e => let ⟨r0, r1, r2, r3, r4, r5⟩ := hF.k10 e; ⟨r0, r1, by omega, r3, fun e' => (r4 e').span sx (by omega), fun e' => (r5 e').span sx (by omega)⟩, k13 := hF.k13, ne := hF.ne, c4 := hF.c4, c5 := hF.c5, c6 := hF.c6, c7 := hF.c7, c8 := hF.c8, c11 := fun _ => ⟨h4, h9⟩, c12 := hF.c12, c13 := hF.c13 }⟩
    · have h10 : f 10 = true := hw 10 (of_decide_eq_true (by kernel_rfl))
      have h7 : f 7 = true := hw 7 (of_decide_eq_true (by kernel_rfl))
      have h9 : f 9 = true := hw 9 (of_decide_eq_true (by kernel_rfl))
      have h4 := hF.c7 h7
      obtain rfl := hF.k7 h7
      obtain ⟨rfl, q1, q2, q3, q4, _⟩ := hF.k10 h10
      have tt := q4 hfj
      obtain ⟨i0, i1, o0, o1⟩ := id tt
      refine wpOp_wanted rfl (by kernel_rfl) ?_
      go_simp
      have sx : Span b10 (b10 + 1) u ((u.setCell ⟨b10, 0, none⟩ (.slice R.s3 R.sv.length R.d3)).setCell ⟨b10, 1, none⟩ (.slice R.s4 R.ss.length R.d4)) := ((Span.refl _ _ _).setCell (Nat.le_refl _) (Nat.lt_succ_self _) _ _).setCell (Nat.le_refl _) (Nat.lt_succ_self _) _ _
      have tn := (tt.set0 (.slice R.s3 R.sv.length R.d3)).set1 (.slice R.s4 R.ss.length R.d4)
      have zx : ((u.setCell ⟨b10, 0, none⟩ (.slice R.s3 R.sv.length R.d3)).setCell ⟨b10, 1, none⟩ (.slice R.s4 R.ss.length R.d4)).heap.size = u.heap.size := by simp
      have far := q3 h4
      have ne := hF.ne h9 h10
      have hb := hF.bel.trans (sx.below q1 hF.bel.size)
      generalize ((u.setCell ⟨b10, 0, none⟩ (.slice R.s3 R.sv.length R.d3)).setCell ⟨b10, 1, none⟩ (.slice R.s4 R.ss.length R.d4)) = n at *
      exact ⟨R, b9, b10, p0, p1, p2, pl, ph, pf, _, _, _, _, _, _, _, _, _, _, _, _, ⟨rfl, rfl, rfl, rfl, rfl, rfl, rfl, rfl, rfl, rfl, rfl, rfl⟩, { bel := hb, k0 := hF.k0, k1 := fun e => ⟨(hF.k1 e).1, fun e' => by rw [show andDone f 12 4 = f 4 from rfl, h4] at e'; cases e'⟩, k2 := hF.k2, k3 := fun e => ⟨(hF.k3 e).1, fun e' => by rw [show andDone f 12 4 = f 4 from rfl, h4] at e'; cases e'⟩, k4 := fun e => let ⟨r0, r1, r2⟩ := hF.k4 e; ⟨r0, r1.span sx (by omega), r2⟩, k5 := hF.k5, k6 := hF.k6, k7 := hF.k7, k8 := hF.k8, k10 := fun _ => ⟨rfl, q1, by omega, fun _ => far, (fun e => by cases e), fun _ => tn⟩, k9 := fun e => let ⟨r0, r1, r2, r3, r4, r5⟩ := hF.k9 e; ⟨r0, r1, by omega, r3, fun e' => (r4 e').span sx (by omega), fun e' => (r5 e').span sx (by omega)⟩, k13 := hF.k13, ne := hF.ne, c4 := hF.c4, c5 := hF.c5, c6 := hF.c6, c7 := hF.c7, c8 := hF.c8, c11 := hF.c11, c12 := fun _ => ⟨h4, h10⟩, c13 := hF.c13 }⟩
    · have h8 : f 8 = true := hw 8 (of_decide_eq_true (by kernel_rfl))
      have h4 := hF.c8 h8
      obtain rfl := hF.k8 h8
      refine wpOp_wanted rfl (by kernel_rfl) ?_
      go_simp
      exact ⟨R, b9, b10, p0, p1, p2, pl, ph, pf, _, _, _, _, _, _, _, _, _, _, _, _, ⟨rfl, rfl, rfl, rfl, rfl, rfl, rfl, rfl, rfl, rfl, rfl, rfl⟩, { hF with k13 := fun _ => rfl, c13 := fun _ => h4 }⟩
  case fin =>
    rintro f a u ⟨R, b9, b10, p0, p1, p2, pl, ph, pf, v6, v7, v8, v30, v31, v32, v33, v34, v35, v36, v37, v38, rfl, hF⟩ hall
    obtain ⟨rfl, hcal, wtl⟩ := hF.k4 (hall 4 (of_decide_eq_true (by kernel_rfl)))
    obtain ⟨rfl, w9, l9, far9, _, tW⟩ := hF.k9 (hall 9 (of_decide_eq_true (by kernel_rfl)))
    obtain ⟨rfl, w10, l10, far10, _, dW⟩ := hF.k10 (hall 10 (of_decide_eq_true (by kernel_rfl)))
    obtain rfl := hF.k13 (hall 13 (of_decide_eq_true (by kernel_rfl)))
    replace tW := tW (hall 11 (of_decide_eq_true (by kernel_rfl)))
    replace dW := dW (hall 12 (of_decide_eq_true (by kernel_rfl)))
    have bu := hF.bel
    clear hF hall
    replace tA := tA.keep bu
    replace tF := tF.keep bu
    replace B : Below w.heap.size w u := B.trans (bu.mono B.size)
    have yu := bu.size
    have hcalS := hcal
    have wb9 := w9
    clear bu HSS
    obtain ⟨tA0, tA1, tA2, _, _, _⟩ := id tA
    obtain ⟨tF0, tF1, tF2, _, _, _⟩ := id tF
    obtain ⟨tW0, tW1, tW2, _, _, _⟩ := id tW
    obtain ⟨dW0, dW1, _, _⟩ := id dW
    go_wp2_with fail
    refine (toGather_any a0 a1 a2 c0 c1 c2 g _ (r0.below B) (r1.below B) (r2.below B) HSG.out.1).mono ?_
    rintro e w3 ⟨⟨p0, p1, p2, pl, ph, rfl, pz, p01, p1l, ⟨pll, phl⟩, hx0, hx1, hx2⟩, b3⟩
    have lx2 : p2 < w3.heap.size := hx2.lt
    clear tA0 tA1 tA2 tF0 tF1 tF2 tW0 tW1 tW2 dW0 dW1
    replace tA := tA.keep b3
    replace tF := tF.keep b3
    replace tW := tW.keep b3
    replace dW := dW.keep b3
    replace hcal := hcal.below b3
    replace B : Below w.heap.size w w3 := B.trans (b3.mono B.size)
    have y3 := b3.size
    clear b3
    have bX : Below w3.heap.size w3 (w3.alloc (.cells #[.slice (some ⟨p0, 0, none⟩) g.ins.length g.ins.length, .slice (some ⟨p1, 0, none⟩) g.wins.length g.wins.length, .slice (some ⟨p2, 0, none⟩) g.shown.length g.shown.length] 36)) := (Below.refl _ _).alloc (Nat.le_refl _) _
    have tX := tri_new w3 (.slice (some ⟨p0, 0, none⟩) g.ins.length g.ins.length) (.slice (some ⟨p1, 0, none⟩) g.wins.length g.wins.length) (.slice (some ⟨p2, 0, none⟩) g.shown.length g.shown.length) 36
    have y4 : (w3.alloc (.cells #[.slice (some ⟨p0, 0, none⟩) g.ins.length g.ins.length, .slice (some ⟨p1, 0, none⟩) g.wins.length g.wins.length, .slice (some ⟨p2, 0, none⟩) g.shown.length g.shown.length] 36)).heap.size = w3.heap.size + 1 := by simp
    replace tA := tA.keep bX
    replace tF := tF.keep bX
    replace tW := tW.keep bX
    replace dW := dW.keep bX
    replace hcal := hcal.below bX
    replace hx0 := hx0.keepP bX
    replace hx1 := hx1.below bX
    replace hx2 := hx2.below bX
    replace B : Below w.heap.size w (w3.alloc (.cells #[.slice (some ⟨p0, 0, none⟩) g.ins.length g.ins.length, .slice (some ⟨p1, 0, none⟩) g.wins.length g.wins.length, .slice (some ⟨p2, 0, none⟩) g.shown.length g.shown.length] 36)) := B.trans (bX.mono B.size)
    clear bX
    obtain ⟨tA0, tA1, tA2, _, _, _⟩ := id tA
    obtain ⟨tF0, tF1, tF2, _, _, _⟩ := id tF
    obtain ⟨tW0, tW1, tW2, _, _, _⟩ := id tW
    obtain ⟨tX0, tX1, tX2, _, _, _⟩ := id tX
    obtain ⟨dW0, dW1, _, _⟩ := id dW
    go_wp2_with fail
    generalize w3.alloc (.cells #[.slice (some ⟨p0, 0, none⟩) g.ins.length g.ins.length, .slice (some ⟨p1, 0, none⟩) g.wins.length g.wins.length, .slice (some ⟨p2, 0, none⟩) g.shown.length g.shown.length] 36) = W4 at *
    refine (toFeed_any i x am cm m _ (rm.below B) hml).mono ?_
    rintro e w5 ⟨⟨pf, hpf, rfl, hxf⟩, b5⟩
    have lxf : pf < w5.heap.size := hxf.lt
    clear tA0 tA1 tA2 tF0 tF1 tF2 tW0 tW1 tW2 tX0 tX1 tX2 dW0 dW1
    replace tA := tA.keep b5
    replace tF := tF.keep b5
    replace tW := tW.keep b5
    replace tX := tX.keep b5
    replace dW := dW.keep b5
    replace hcal := hcal.below b5
    replace hx0 := hx0.keepP b5
    replace hx1 := hx1.below b5
    replace hx2 := hx2.below b5
    replace B : Below w.heap.size w w5 := B.trans (b5.mono B.size)
    have y5 := b5.size
    clear b5
    have bY : Below w5.heap.size w5 (w5.alloc (.cells #[.int .i64 i, .int .i64 x, .slice (some ⟨pf, 0, none⟩) m.length m.length] 46)) := (Below.refl _ _).alloc (Nat.le_refl _) _
    have tY := tri_new w5 (.int .i64 i) (.int .i64 x) (.slice (some ⟨pf, 0, none⟩) m.length m.length) 46
    have y6 : (w5.alloc (.cells #[.int .i64 i, .int .i64 x, .slice (some ⟨pf, 0, none⟩) m.length m.length] 46)).heap.size = w5.heap.size + 1 := by simp
    replace tA := tA.keep bY
    replace tF := tF.keep bY
    replace tW := tW.keep bY
    replace tX := tX.keep bY
    replace dW := dW.keep bY
    replace hcal := hcal.below bY
    replace hx0 := hx0.keepP bY
    replace hx1 := hx1.below bY
    replace hx2 := hx2.below bY
    replace hxf := hxf.below bY
    replace B : Below w.heap.size w (w5.alloc (.cells #[.int .i64 i, .int .i64 x, .slice (some ⟨pf, 0, none⟩) m.length m.length] 46)) := B.trans (bY.mono B.size)
    clear bY
    obtain ⟨tA0, tA1, tA2, _, _, _⟩ := id tA
    obtain ⟨tF0, tF1, tF2, _, _, _⟩ := id tF
    obtain ⟨tW0, tW1, tW2, _, _, _⟩ := id tW
    obtain ⟨tX0, tX1, tX2, _, _, _⟩ := id tX
    obtain ⟨tY0, tY1, tY2, _, _, _⟩ := id tY
    obtain ⟨dW0, dW1, _, _⟩ := id dW
    go_wp2_with fail
    generalize w5.alloc (.cells #[.int .i64 i, .int .i64 x, .slice (some ⟨pf, 0, none⟩) m.length m.length] 46) = W6 at *
    have hrl : R.L.length = R.g.wins.length := by have := congrArg List.length hcal.map; rw [List.length_map] at this; exact this
    have HRL : Hid (R.L.length = R.g.wins.length) := hrl
    clear hrl
    refine (implGP_any (some ⟨p0, 0, none⟩) (some ⟨p1, 0, none⟩) (some ⟨p2, 0, none⟩) (some ⟨pf, 0, none⟩) g.ins.length g.wins.length g.shown.length m.length g i x m _ hf hil (Nat.le_refl _) hf.ins.1 hx0.row hx1.row hx2.row hfm (Nat.le_refl _) hxf.row (het.below B)).mono ?_
    rintro e w7 ⟨hE, b7⟩
    obtain ⟨⟨rg, rL, rsv, rss, rcode, q0, q1, q2, q3, q4, f0, f1, f2, f3, f4, ti, h1, h2, hi7⟩, rfl, et1, et2, hI⟩ := hE.cal
    simp only at et1 et2
    obtain ⟨e1, e2, e3, e4, e5⟩ := cal_same hcal hI
    simp only at e1 e2 e3 e4 e5
    subst e1 e2 e3 e4
    clear tA0 tA1 tA2 tF0 tF1 tF2 tW0 tW1 tW2 tX0 tX1 tX2 tY0 tY1 tY2 dW0 dW1
    replace tA := tA.keep b7
    replace tF := tF.keep b7
    replace tW := tW.keep b7
    replace tX := tX.keep b7
    replace tY := tY.keep b7
    replace dW := dW.keep b7
    replace hcal := hcal.below b7
    replace hx0 := hx0.keepP b7
    replace hx1 := hx1.below b7
    replace hx2 := hx2.below b7
    replace hxf := hxf.below b7
    replace B : Below w.heap.size w w7 := B.trans (b7.mono B.size)
    have y7 := b7.size
    clear b7 hE
    have lp2 : p2 < w7.heap.size := hx2.lt
    have lpf : pf < w7.heap.size := hxf.lt
    have bZ : Below w7.heap.size w7 ((w7.alloc (.cells #[.slice q0 R.g.ins.length f0, .slice q1 rL.length f1, .slice q2 R.g.shown.length f2] 36)).alloc (.cells #[.slice q3 R.sv.length f3, .slice q4 R.ss.length f4] 39)) := ((Below.refl _ _).alloc (Nat.le_refl _) _).alloc (by simp) _
    have tG : Tri ((w7.alloc (.cells #[.slice q0 R.g.ins.length f0, .slice q1 rL.length f1, .slice q2 R.g.shown.length f2] 36)).alloc (.cells #[.slice q3 R.sv.length f3, .slice q4 R.ss.length f4] 39)) w7.heap.size (.slice q0 R.g.ins.length f0) (.slice q1 rL.length f1) (.slice q2 R.g.shown.length f2) := by constructor <;> simp [go_sem]
    have dG : Duo ((w7.alloc (.cells #[.slice q0 R.g.ins.length f0, .slice q1 rL.length f1, .slice q2 R.g.shown.length f2] 36)).alloc (.cells #[.slice q3 R.sv.length f3, .slice q4 R.ss.length f4] 39)) (w7.heap.size + 1) (.slice q3 R.sv.length f3) (.slice q4 R.ss.length f4) := by constructor <;> simp [go_sem]
    have y8 : ((w7.alloc (.cells #[.slice q0 R.g.ins.length f0, .slice q1 rL.length f1, .slice q2 R.g.shown.length f2] 36)).alloc (.cells #[.slice q3 R.sv.length f3, .slice q4 R.ss.length f4] 39)).heap.size = w7.heap.size + 2 := by simp
    replace tA := tA.keep bZ
    replace tF := tF.keep bZ
    replace tW := tW.keep bZ
    replace tX := tX.keep bZ
    replace tY := tY.keep bZ
    replace dW := dW.keep bZ
    replace hcal := hcal.below bZ
    replace hI := hI.below bZ
    replace hx0 := hx0.keepP bZ
    replace hx1 := hx1.below bZ
    replace hx2 := hx2.below bZ
    replace hxf := hxf.below bZ
    replace B : Below w.heap.size w ((w7.alloc (.cells #[.slice q0 R.g.ins.length f0, .slice q1 rL.length f1, .slice q2 R.g.shown.length f2] 36)).alloc (.cells #[.slice q3 R.sv.length f3, .slice q4 R.ss.length f4] 39)) := B.trans (bZ.mono B.size)
    clear bZ
    have HE5 : Hid (R.L.length = rL.length) := e5
    clear e5
    obtain ⟨tA0, tA1, tA2, _, _, _⟩ := id tA
    obtain ⟨tF0, tF1, tF2, _, _, _⟩ := id tF
    obtain ⟨tW0, tW1, tW2, _, _, _⟩ := id tW
    obtain ⟨tX0, tX1, tX2, _, _, _⟩ := id tX
    obtain ⟨tY0, tY1, tY2, _, _, _⟩ := id tY
    obtain ⟨tG0, tG1, tG2, _, _, _⟩ := id tG
    obtain ⟨dW0, dW1, _, _⟩ := id dW
    obtain ⟨dG0, dG1, _, _⟩ := id dG
    go_wp2_with fail
    generalize (w7.alloc (.cells #[.slice q0 R.g.ins.length f0, .slice q1 rL.length f1, .slice q2 R.g.shown.length f2] 36)).alloc (.cells #[.slice q3 R.sv.length f3, .slice q4 R.ss.length f4] 39) = W8 at *
    have rth := hcalS.o4
    clear HE5 HRL
    refine (eqCal_any hcal hI).mono ?_
    rintro e w9 ⟨rfl, b9⟩
    clear tA0 tA1 tA2 tF0 tF1 tF2 tW0 tW1 tW2 tX0 tX1 tX2 tY0 tY1 tY2 tG0 tG1 tG2 dW0 dW1 dG0 dG1
    replace tA := tA.keep b9
    replace tF := tF.keep b9
    replace tW := tW.keep b9
    replace tX := tX.keep b9
    replace tY := tY.keep b9
    replace tG := tG.keep b9
    replace dW := dW.keep b9
    replace dG := dG.keep b9
    replace hcal := hcal.below b9
    replace hI := hI.below b9
    replace hx0 := hx0.keepP b9
    replace hx1 := hx1.below b9
    replace hx2 := hx2.below b9
    replace hxf := hxf.below b9
    replace B : Below w.heap.size w w9 := B.trans (b9.mono B.size)
    have y9 := b9.size
    clear b9
    obtain ⟨tA0, tA1, tA2, _, _, _⟩ := id tA
    obtain ⟨tF0, tF1, tF2, _, _, _⟩ := id tF
    obtain ⟨tW0, tW1, tW2, _, _, _⟩ := id tW
    obtain ⟨tX0, tX1, tX2, _, _, _⟩ := id tX
    obtain ⟨tY0, tY1, tY2, _, _, _⟩ := id tY
    obtain ⟨tG0, tG1, tG2, _, _, _⟩ := id tG
    obtain ⟨dW0, dW1, _, _⟩ := id dW
    obtain ⟨dG0, dG1, _, _⟩ := id dG
    go_wp2_with fail
    refine (eqCalS_any hcal hI).mono ?_
    rintro e w10 ⟨rfl, b10⟩
    clear tA0 tA1 tA2 tF0 tF1 tF2 tW0 tW1 tW2 tX0 tX1 tX2 tY0 tY1 tY2 tG0 tG1 tG2 dW0 dW1 dG0 dG1
    replace tA := tA.keep b10
    replace tF := tF.keep b10
    replace tW := tW.keep b10
    replace tX := tX.keep b10
    replace tY := tY.keep b10
    replace tG := tG.keep b10
    replace dW := dW.keep b10
    replace dG := dG.keep b10
    replace hcal := hcal.below b10
    replace hI := hI.below b10
    replace hx0 := hx0.keepP b10
    replace hx1 := hx1.below b10
    replace hx2 := hx2.below b10
    replace hxf := hxf.below b10
    replace B : Below w.heap.size w w10 := B.trans (b10.mono B.size)
    have y10 := b10.size
    clear b10
    obtain ⟨tA0, tA1, tA2, _, _, _⟩ := id tA
    obtain ⟨tF0, tF1, tF2, _, _, _⟩ := id tF
    obtain ⟨tW0, tW1, tW2, _, _, _⟩ := id tW
    obtain ⟨tX0, tX1, tX2, _, _, _⟩ := id tX
    obtain ⟨tY0, tY1, tY2, _, _, _⟩ := id tY
    obtain ⟨tG0, tG1, tG2, _, _, _⟩ := id tG
    obtain ⟨dW0, dW1, _, _⟩ := id dW
    obtain ⟨dG0, dG1, _, _⟩ := id dG
    go_wp2_with fail
    clear tA0 tA1 tA2 tF0 tF1 tF2 tW0 tW1 tW2 tX0 tX1 tX2 tY0 tY1 tY2 tG0 tG1 tG2 dW0 dW1 dG0 dG1
    have bd : Below w10.heap.size w10 (w10.drew) := (Below.refl _ _).drew
    replace tA := tA.keep bd
    replace tF := tF.keep bd
    replace tW := tW.keep bd
    replace tX := tX.keep bd
    replace tY := tY.keep bd
    replace tG := tG.keep bd
    replace dW := dW.keep bd
    replace dG := dG.keep bd
    replace hcal := hcal.below bd
    replace hI := hI.below bd
    replace hx0 := hx0.keepP bd
    replace hx1 := hx1.below bd
    replace hx2 := hx2.below bd
    replace hxf := hxf.below bd
    replace B : Below w.heap.size w (w10.drew) := B.trans (bd.mono B.size)
    clear bd
    have SW : (w10.drew).cell? ⟨w.heap.size, 0, none⟩ = some (.slice a0 g.ins.length c0) ∧ (w10.drew).cell? ⟨w.heap.size, 1, none⟩ = some (.slice a1 g.wins.length c1) ∧ (w10.drew).cell? ⟨w.heap.size, 2, none⟩ = some (.slice a2 g.shown.length c2) ∧ (w10.drew).cell? ⟨w3.heap.size, 0, none⟩ = some (.slice (some ⟨p0, 0, none⟩) g.ins.length g.ins.length) ∧ (w10.drew).cell? ⟨w3.heap.size, 1, none⟩ = some (.slice (some ⟨p1, 0, none⟩) g.wins.length g.wins.length) ∧ (w10.drew).cell? ⟨w3.heap.size, 2, none⟩ = some (.slice (some ⟨p2, 0, none⟩) g.shown.length g.shown.length) := ⟨tA.c0, tA.c1, tA.c2, tX.c0, tX.c1, tX.c2⟩
    refine wp_region_held_drew (S := fun u => u.cell? ⟨w.heap.size, 0, none⟩ = some (.slice a0 g.ins.length c0) ∧ u.cell? ⟨w.heap.size, 1, none⟩ = some (.slice a1 g.wins.length c1) ∧ u.cell? ⟨w.heap.size, 2, none⟩ = some (.slice a2 g.shown.length c2) ∧ u.cell? ⟨w3.heap.size, 0, none⟩ = some (.slice (some ⟨p0, 0, none⟩) g.ins.length g.ins.length) ∧ u.cell? ⟨w3.heap.size, 1, none⟩ = some (.slice (some ⟨p1, 0, none⟩) g.wins.length g.wins.length) ∧ u.cell? ⟨w3.heap.size, 2, none⟩ = some (.slice (some ⟨p2, 0, none⟩) g.shown.length g.shown.length)) (by kernel_rfl) SW (fun _ => ?_)
    refine wpAnyH_take (i := 0) (v := .agg #[.slice (some ⟨p0, 0, none⟩) g.ins.length g.ins.length, .slice (some ⟨p1, 0, none⟩) g.wins.length g.wins.length, .slice (some ⟨p2, 0, none⟩) g.shown.length g.shown.length]) rfl (by kernel_rfl) (by kernel_rfl) (by kernel_rfl) (fun _ _ _ h => h) (Or.inl ⟨by rfl, ?_⟩) SW ?_
    · rintro u ⟨q1, q2, q3, q4, q5, q6⟩
      go_simp
    simp only [Act.put, List.setIfInBounds_toArray]
    refine wpAnyH_take (i := 1) (v := .agg #[.slice a0 g.ins.length c0, .slice a1 g.wins.length c1, .slice a2 g.shown.length c2]) rfl (by kernel_rfl) (by kernel_rfl) (by kernel_rfl) (fun _ _ _ h => h) (Or.inl ⟨by rfl, ?_⟩) SW ?_
    · rintro u ⟨q1, q2, q3, q4, q5, q6⟩
      go_simp
    simp only [Act.put]
    refine wpAnyH_ready (rs := [2]) (by kernel_rfl) (by simp) ?_
    refine AllReadyH.cons rfl (fun K hK => ?_) AllReadyH.nil
    rw [if_pos (by rfl)]
    go_simp
    generalize w10.drew = W11 at *
    refine (toGather_any a0 a1 a2 c0 c1 c2 g _ (r0.below B) (r1.below B) (r2.below B) HSG.out.1).mono ?_
    rintro e w12 ⟨⟨P0, P1, P2, Pl, Ph, rfl, _, _, _, _, hX0, hX1, hX2⟩, b12⟩
    replace tA := tA.keep b12
    replace tF := tF.keep b12
    replace tW := tW.keep b12
    replace tX := tX.keep b12
    replace tY := tY.keep b12
    replace tG := tG.keep b12
    replace dW := dW.keep b12
    replace dG := dG.keep b12
    replace hcal := hcal.below b12
    replace hI := hI.below b12
    replace hx0 := hx0.keepP b12
    replace hx1 := hx1.below b12
    replace hx2 := hx2.below b12
    replace hxf := hxf.below b12
    replace B : Below w.heap.size w w12 := B.trans (b12.mono B.size)
    have y12 := b12.size
    clear b12 SW
    have SW : w12.cell? ⟨w.heap.size, 0, none⟩ = some (.slice a0 g.ins.length c0) ∧ w12.cell? ⟨w.heap.size, 1, none⟩ = some (.slice a1 g.wins.length c1) ∧ w12.cell? ⟨w.heap.size, 2, none⟩ = some (.slice a2 g.shown.length c2) ∧ w12.cell? ⟨w3.heap.size, 0, none⟩ = some (.slice (some ⟨p0, 0, none⟩) g.ins.length g.ins.length) ∧ w12.cell? ⟨w3.heap.size, 1, none⟩ = some (.slice (some ⟨p1, 0, none⟩) g.wins.length g.wins.length) ∧ w12.cell? ⟨w3.heap.size, 2, none⟩ = some (.slice (some ⟨p2, 0, none⟩) g.shown.length g.shown.length) := ⟨tA.c0, tA.c1, tA.c2, tX.c0, tX.c1, tX.c2⟩
    refine hK.out _ _ SW (fun _ => ?_)
    clear hK K
    refine wpAnyH_ready (rs := [3]) (by kernel_rfl) (by simp) ?_
    refine AllReadyH.cons rfl (fun K hK => ?_) AllReadyH.nil
    rw [if_pos (by rfl)]
    go_simp
    refine (eqGather_same (some ⟨p0, 0, none⟩) (some ⟨p1, 0, none⟩) (some ⟨p2, 0, none⟩) (some ⟨P0, 0, none⟩) (some ⟨P1, 0, none⟩) (some ⟨P2, 0, none⟩) g.ins.length g.wins.length g.shown.length g.ins.length g.wins.length g.shown.length g _ hf hx0.row hx1.row hx2.row hX0.row hX1.row hX2.row).mono ?_
    rintro e w13 ⟨rfl, b13⟩
    clear SW hX0 hX1 hX2
    replace tA := tA.keep b13
    replace tF := tF.keep b13
    replace tW := tW.keep b13
    replace tX := tX.keep b13
    replace tY := tY.keep b13
    replace tG := tG.keep b13
    replace dW := dW.keep b13
    replace dG := dG.keep b13
    replace hcal := hcal.below b13
    replace hI := hI.below b13
    replace hx0 := hx0.keepP b13
    replace hx1 := hx1.below b13
    replace hx2 := hx2.below b13
    replace hxf := hxf.below b13
    replace B : Below w.heap.size w w13 := B.trans (b13.mono B.size)
    have y13 := b13.size
    clear b13
    have SW : w13.cell? ⟨w.heap.size, 0, none⟩ = some (.slice a0 g.ins.length c0) ∧ w13.cell? ⟨w.heap.size, 1, none⟩ = some (.slice a1 g.wins.length c1) ∧ w13.cell? ⟨w.heap.size, 2, none⟩ = some (.slice a2 g.shown.length c2) ∧ w13.cell? ⟨w3.heap.size, 0, none⟩ = some (.slice (some ⟨p0, 0, none⟩) g.ins.length g.ins.length) ∧ w13.cell? ⟨w3.heap.size, 1, none⟩ = some (.slice (some ⟨p1, 0, none⟩) g.wins.length g.wins.length) ∧ w13.cell? ⟨w3.heap.size, 2, none⟩ = some (.slice (some ⟨p2, 0, none⟩) g.shown.length g.shown.length) := ⟨tA.c0, tA.c1, tA.c2, tX.c0, tX.c1, tX.c2⟩
    refine hK.out _ _ SW (fun _ => ?_)
    clear hK K
    refine wpAnyH_take (i := 4) (v := .bool false) rfl (by kernel_rfl) (by kernel_rfl) (by kernel_rfl) (fun _ _ _ h => h) (Or.inl ⟨by rfl, ?_⟩) SW ?_
    · rintro u ⟨q1, q2, q3, q4, q5, q6⟩
      go_simp
    simp only [Act.put, List.setIfInBounds_toArray]
    refine wpAnyH_done (by kernel_rfl) ?_ _
    clear SW
    go_simp
    obtain ⟨tA0, tA1, tA2, _, _, _⟩ := id tA
    obtain ⟨tF0, tF1, tF2, _, _, _⟩ := id tF
    obtain ⟨tW0, tW1, tW2, _, _, _⟩ := id tW
    obtain ⟨tX0, tX1, tX2, _, _, _⟩ := id tX
    obtain ⟨tY0, tY1, tY2, _, _, _⟩ := id tY
    obtain ⟨tG0, tG1, tG2, _, _, _⟩ := id tG
    obtain ⟨dW0, dW1, _, _⟩ := id dW
    obtain ⟨dG0, dG1, _, _⟩ := id dG
    go_wp2_with fail
    clear tA0 tA1 tA2 tF0 tF1 tF2 tW0 tW1 tW2 tX0 tX1 tX2 tY0 tY1 tY2 tG0 tG1 tG2 dW0 dW1 dG0 dG1
    have bd : Below w13.heap.size w13 (w13.drew) := (Below.refl _ _).drew
    replace tA := tA.keep bd
    replace tF := tF.keep bd
    replace tW := tW.keep bd
    replace tX := tX.keep bd
    replace tY := tY.keep bd
    replace tG := tG.keep bd
    replace dW := dW.keep bd
    replace dG := dG.keep bd
    replace hcal := hcal.below bd
    replace hI := hI.below bd
    replace hx0 := hx0.keepP bd
    replace hx1 := hx1.below bd
    replace hx2 := hx2.below bd
    replace hxf := hxf.below bd
    replace B : Below w.heap.size w (w13.drew) := B.trans (bd.mono B.size)
    clear bd
    have SW : (w13.drew).cell? ⟨w.heap.size + 1, 0, none⟩ = some (.int .i64 i) ∧ (w13.drew).cell? ⟨w.heap.size + 1, 1, none⟩ = some (.int .i64 x) ∧ (w13.drew).cell? ⟨w.heap.size + 1, 2, none⟩ = some (.slice am m.length cm) ∧ (w13.drew).cell? ⟨w5.heap.size, 0, none⟩ = some (.int .i64 i) ∧ (w13.drew).cell? ⟨w5.heap.size, 1, none⟩ = some (.int .i64 x) ∧ (w13.drew).cell? ⟨w5.heap.size, 2, none⟩ = some (.slice (some ⟨pf, 0, none⟩) m.length m.length) := ⟨tF.c0, tF.c1, tF.c2, tY.c0, tY.c1, tY.c2⟩
    refine wp_region_held_drew (S := fun u => u.cell? ⟨w.heap.size + 1, 0, none⟩ = some (.int .i64 i) ∧ u.cell? ⟨w.heap.size + 1, 1, none⟩ = some (.int .i64 x) ∧ u.cell? ⟨w.heap.size + 1, 2, none⟩ = some (.slice am m.length cm) ∧ u.cell? ⟨w5.heap.size, 0, none⟩ = some (.int .i64 i) ∧ u.cell? ⟨w5.heap.size, 1, none⟩ = some (.int .i64 x) ∧ u.cell? ⟨w5.heap.size, 2, none⟩ = some (.slice (some ⟨pf, 0, none⟩) m.length m.length)) (by kernel_rfl) SW (fun _ => ?_)
    refine wpAnyH_take (i := 0) (v := .agg #[.int .i64 i, .int .i64 x, .slice (some ⟨pf, 0, none⟩) m.length m.length]) rfl (by kernel_rfl) (by kernel_rfl) (by kernel_rfl) (fun _ _ _ h => h) (Or.inl ⟨by rfl, ?_⟩) SW ?_
    · rintro u ⟨q1, q2, q3, q4, q5, q6⟩
      go_simp
    simp only [Act.put, List.setIfInBounds_toArray]
    refine wpAnyH_take (i := 1) (v := .agg #[.int .i64 i, .int .i64 x, .slice am m.length cm]) rfl (by kernel_rfl) (by kernel_rfl) (by kernel_rfl) (fun _ _ _ h => h) (Or.inl ⟨by rfl, ?_⟩) SW ?_
    · rintro u ⟨q1, q2, q3, q4, q5, q6⟩
      go_simp
    simp only [Act.put]
    refine wpAnyH_ready (rs := [2]) (by kernel_rfl) (by simp) ?_
    refine AllReadyH.cons rfl (fun K hK => ?_) AllReadyH.nil
    rw [if_pos (by rfl)]
    go_simp
    generalize w13.drew = W14 at *
    refine (toFeed_any i x am cm m _ (rm.below B) hml).mono ?_
    rintro e w15 ⟨⟨Pf, _, rfl, hXf⟩, b15⟩
    replace tA := tA.keep b15
    replace tF := tF.keep b15
    replace tW := tW.keep b15
    replace tX := tX.keep b15
    replace tY := tY.keep b15
    replace tG := tG.keep b15
    replace dW := dW.keep b15
    replace dG := dG.keep b15
    replace hcal := hcal.below b15
    replace hI := hI.below b15
    replace hx0 := hx0.keepP b15
    replace hx1 := hx1.below b15
    replace hx2 := hx2.below b15
    replace hxf := hxf.below b15
    replace B : Below w.heap.size w w15 := B.trans (b15.mono B.size)
    have y15 := b15.size
    clear b15 SW
    have SW : w15.cell? ⟨w.heap.size + 1, 0, none⟩ = some (.int .i64 i) ∧ w15.cell? ⟨w.heap.size + 1, 1, none⟩ = some (.int .i64 x) ∧ w15.cell? ⟨w.heap.size + 1, 2, none⟩ = some (.slice am m.length cm) ∧ w15.cell? ⟨w5.heap.size, 0, none⟩ = some (.int .i64 i) ∧ w15.cell? ⟨w5.heap.size, 1, none⟩ = some (.int .i64 x) ∧ w15.cell? ⟨w5.heap.size, 2, none⟩ = some (.slice (some ⟨pf, 0, none⟩) m.length m.length) := ⟨tF.c0, tF.c1, tF.c2, tY.c0, tY.c1, tY.c2⟩
    refine hK.out _ _ SW (fun _ => ?_)
    clear hK K
    refine wpAnyH_ready (rs := [3]) (by kernel_rfl) (by simp) ?_
    refine AllReadyH.cons rfl (fun K hK => ?_) AllReadyH.nil
    rw [if_pos (by rfl)]
    go_simp
    refine (eqFeed_same i x (some ⟨pf, 0, none⟩) (some ⟨Pf, 0, none⟩) m.length m.length m _ hfm.1 hxf.row hXf.row).mono ?_
    rintro e w16 ⟨rfl, b16⟩
    clear SW hXf
    replace tA := tA.keep b16
    replace tF := tF.keep b16
    replace tW := tW.keep b16
    replace tX := tX.keep b16
    replace tY := tY.keep b16
    replace tG := tG.keep b16
    replace dW := dW.keep b16
    replace dG := dG.keep b16
    replace hcal := hcal.below b16
    replace hI := hI.below b16
    replace hx0 := hx0.keepP b16
    replace hx1 := hx1.below b16
    replace hx2 := hx2.below b16
    replace hxf := hxf.below b16
    replace B : Below w.heap.size w w16 := B.trans (b16.mono B.size)
    have y16 := b16.size
    clear b16
    have SW : w16.cell? ⟨w.heap.size + 1, 0, none⟩ = some (.int .i64 i) ∧ w16.cell? ⟨w.heap.size + 1, 1, none⟩ = some (.int .i64 x) ∧ w16.cell? ⟨w.heap.size + 1, 2, none⟩ = some (.slice am m.length cm) ∧ w16.cell? ⟨w5.heap.size, 0, none⟩ = some (.int .i64 i) ∧ w16.cell? ⟨w5.heap.size, 1, none⟩ = some (.int .i64 x) ∧ w16.cell? ⟨w5.heap.size, 2, none⟩ = some (.slice (some ⟨pf, 0, none⟩) m.length m.length) := ⟨tF.c0, tF.c1, tF.c2, tY.c0, tY.c1, tY.c2⟩
    refine hK.out _ _ SW (fun _ => ?_)
    clear hK K
    refine wpAnyH_take (i := 4) (v := .bool false) rfl (by kernel_rfl) (by kernel_rfl) (by kernel_rfl) (fun _ _ _ h => h) (Or.inl ⟨by rfl, ?_⟩) SW ?_
    · rintro u ⟨q1, q2, q3, q4, q5, q6⟩
      go_simp
    simp only [Act.put, List.setIfInBounds_toArray]
    refine wpAnyH_done (by kernel_rfl) ?_ _
    clear SW
    go_simp
    obtain ⟨tA0, tA1, tA2, _, _, _⟩ := id tA
    obtain ⟨tF0, tF1, tF2, _, _, _⟩ := id tF
    obtain ⟨tW0, tW1, tW2, _, _, _⟩ := id tW
    obtain ⟨tX0, tX1, tX2, _, _, _⟩ := id tX
    obtain ⟨tY0, tY1, tY2, _, _, _⟩ := id tY
    obtain ⟨tG0, tG1, tG2, _, _, _⟩ := id tG
    obtain ⟨dW0, dW1, _, _⟩ := id dW
    obtain ⟨dG0, dG1, _, _⟩ := id dG
    go_wp2_with fail
    have hSf : Safe w16 pf (pf + 1) (some ⟨pf, 0, none⟩) m := .inr ⟨pf, rfl, Nat.le_refl _, Nat.lt_succ_self _, hxf⟩
    refine (markX_any p0 p1 p2 pl ph g.ins.length g.wins.length g.shown.length g _ HSG.out.1 (by have := HSG.out.2; omega) p01 p1l pll phl hx0 hx1 hx2).mono ?_
    rintro e w17 ⟨⟨k, rfl, hk0, hk1⟩, s17⟩
    clear hx0 hx1 hx2 hxf
    clear tA0 tA1 tA2 tF0 tF1 tF2 tW0 tW1 tW2 tX0 tX1 tX2 tY0 tY1 tY2 tG0 tG1 tG2 dW0 dW1 dG0 dG1
    replace tA := tA.span s17 (by omega)
    replace tF := tF.span s17 (by omega)
    replace tW := tW.span s17 (by omega)
    replace tX := tX.span s17 (by omega)
    replace tY := tY.span s17 (by omega)
    replace tG := tG.span s17 (by omega)
    replace dW := dW.span s17 (by omega)
    replace dG := dG.span s17 (by omega)
    replace hcal := hcal.span s17 (by omega)
    replace hI := hI.span s17 (by dsimp only; omega)
    replace B : Below w.heap.size w w17 := B.trans (s17.below (by omega) B.size)
    replace hSf := hSf.span s17 (by omega)
    have y17 := s17.size
    clear s17
    obtain ⟨tA0, tA1, tA2, _, _, _⟩ := id tA
    obtain ⟨tF0, tF1, tF2, _, _, _⟩ := id tF
    obtain ⟨tW0, tW1, tW2, _, _, _⟩ := id tW
    obtain ⟨tX0, tX1, tX2, _, _, _⟩ := id tX
    obtain ⟨tY0, tY1, tY2, _, _, _⟩ := id tY
    obtain ⟨tG0, tG1, tG2, _, _, _⟩ := id tG
    obtain ⟨dW0, dW1, _, _⟩ := id dW
    obtain ⟨dG0, dG1, _, _⟩ := id dG
    go_wp2_with fail
    refine (markFeed_any i x (some ⟨pf, 0, none⟩) m.length pf (pf + 1) m k _ hml hk0 (by omega) hSf).mono ?_
    rintro e w18 ⟨rfl, s18⟩
    clear hSf
    clear tA0 tA1 tA2 tF0 tF1 tF2 tW0 tW1 tW2 tX0 tX1 tX2 tY0 tY1 tY2 tG0 tG1 tG2 dW0 dW1 dG0 dG1
    replace tA := tA.span s18 (by omega)
    replace tF := tF.span s18 (by omega)
    replace tW := tW.span s18 (by omega)
    replace tX := tX.span s18 (by omega)
    replace tY := tY.span s18 (by omega)
    replace tG := tG.span s18 (by omega)
    replace dW := dW.span s18 (by omega)
    replace dG := dG.span s18 (by omega)
    replace hcal := hcal.span s18 (by omega)
    replace hI := hI.span s18 (by dsimp only; omega)
    replace B : Below w.heap.size w w18 := B.trans (s18.below (by omega) B.size)
    have y18 := s18.size
    clear s18
    have hkk : ¬ k + 2 * (m.length : Int) < 0 := by omega
    obtain ⟨tA0, tA1, tA2, _, _, _⟩ := id tA
    obtain ⟨tF0, tF1, tF2, _, _, _⟩ := id tF
    obtain ⟨tW0, tW1, tW2, _, _, _⟩ := id tW
    obtain ⟨tX0, tX1, tX2, _, _, _⟩ := id tX
    obtain ⟨tY0, tY1, tY2, _, _, _⟩ := id tY
    obtain ⟨tG0, tG1, tG2, _, _, _⟩ := id tG
    obtain ⟨dW0, dW1, _, _⟩ := id dW
    obtain ⟨dG0, dG1, _, _⟩ := id dG
    go_wp2_with fail
    refine (eqCal_any hcal hI).mono ?_
    rintro e w19 ⟨rfl, b19⟩
    clear tA0 tA1 tA2 tF0 tF1 tF2 tW0 tW1 tW2 tX0 tX1 tX2 tY0 tY1 tY2 tG0 tG1 tG2 dW0 dW1 dG0 dG1
    replace tA := tA.keep b19
    replace tF := tF.keep b19
    replace tW := tW.keep b19
    replace tX := tX.keep b19
    replace tY := tY.keep b19
    replace tG := tG.keep b19
    replace dW := dW.keep b19
    replace dG := dG.keep b19
    replace hcal := hcal.below b19
    replace hI := hI.below b19
    replace B : Below w.heap.size w w19 := B.trans (b19.mono B.size)
    have y19 := b19.size
    clear b19
    obtain ⟨tA0, tA1, tA2, _, _, _⟩ := id tA
    obtain ⟨tF0, tF1, tF2, _, _, _⟩ := id tF
    obtain ⟨tW0, tW1, tW2, _, _, _⟩ := id tW
    obtain ⟨tX0, tX1, tX2, _, _, _⟩ := id tX
    obtain ⟨tY0, tY1, tY2, _, _, _⟩ := id tY
    obtain ⟨tG0, tG1, tG2, _, _, _⟩ := id tG
    obtain ⟨dW0, dW1, _, _⟩ := id dW
    obtain ⟨dG0, dG1, _, _⟩ := id dG
    go_wp2_with fail
    refine (eqCalS_any hcal hI).mono ?_
    rintro e w20 ⟨rfl, b20⟩
    clear tA0 tA1 tA2 tF0 tF1 tF2 tW0 tW1 tW2 tX0 tX1 tX2 tY0 tY1 tY2 tG0 tG1 tG2 dW0 dW1 dG0 dG1
    replace tA := tA.keep b20
    replace tF := tF.keep b20
    replace tW := tW.keep b20
    replace tX := tX.keep b20
    replace tY := tY.keep b20
    replace tG := tG.keep b20
    replace dW := dW.keep b20
    replace dG := dG.keep b20
    replace hcal := hcal.below b20
    replace hI := hI.below b20
    replace B : Below w.heap.size w w20 := B.trans (b20.mono B.size)
    have y20 := b20.size
    clear b20
    obtain ⟨tA0, tA1, tA2, _, _, _⟩ := id tA
    obtain ⟨tF0, tF1, tF2, _, _, _⟩ := id tF
    obtain ⟨tW0, tW1, tW2, _, _, _⟩ := id tW
    obtain ⟨tX0, tX1, tX2, _, _, _⟩ := id tX
    obtain ⟨tY0, tY1, tY2, _, _, _⟩ := id tY
    obtain ⟨tG0, tG1, tG2, _, _, _⟩ := id tG
    obtain ⟨dW0, dW1, _, _⟩ := id dW
    obtain ⟨dG0, dG1, _, _⟩ := id dG
    go_wp2_with fail
    refine (markCalG_any hI).mono ?_
    rintro e w21 ⟨K, rfl, hK0, hK1, hH, s21⟩
    simp only at s21
    clear tA0 tA1 tA2 tF0 tF1 tF2 tW0 tW1 tW2 tX0 tX1 tX2 tY0 tY1 tY2 tG0 tG1 tG2 dW0 dW1 dG0 dG1
    replace tA := tA.span s21 (by omega)
    replace tF := tF.span s21 (by omega)
    replace tW := tW.span s21 (by omega)
    replace tX := tX.span s21 (by omega)
    replace tY := tY.span s21 (by omega)
    replace tG := tG.span s21 (by omega)
    replace dW := dW.span s21 (by omega)
    replace dG := dG.span s21 (by omega)
    replace hcal := hcal.span s21 (by omega)
    replace B : Below w.heap.size w w21 := B.trans (s21.below (by omega) B.size)
    clear hI
    have y21 := s21.size
    clear s21
    obtain ⟨tA0, tA1, tA2, _, _, _⟩ := id tA
    obtain ⟨tF0, tF1, tF2, _, _, _⟩ := id tF
    obtain ⟨tW0, tW1, tW2, _, _, _⟩ := id tW
    obtain ⟨tX0, tX1, tX2, _, _, _⟩ := id tX
    obtain ⟨tY0, tY1, tY2, _, _, _⟩ := id tY
    obtain ⟨tG0, tG1, tG2, _, _, _⟩ := id tG
    obtain ⟨dW0, dW1, _, _⟩ := id dW
    obtain ⟨dG0, dG1, _, _⟩ := id dG
    go_wp2_with fail
    refine (markCalS_any hH).mono ?_
    rintro e w22 ⟨M, rfl, hM0, hM1, hM, s22⟩
    simp only at s22
    clear tA0 tA1 tA2 tF0 tF1 tF2 tW0 tW1 tW2 tX0 tX1 tX2 tY0 tY1 tY2 tG0 tG1 tG2 dW0 dW1 dG0 dG1
    replace tA := tA.span s22 (by omega)
    replace tF := tF.span s22 (by omega)
    replace tW := tW.span s22 (by omega)
    replace tX := tX.span s22 (by omega)
    replace tY := tY.span s22 (by omega)
    replace tG := tG.span s22 (by omega)
    replace dW := dW.span s22 (by omega)
    replace dG := dG.span s22 (by omega)
    replace hcal := hcal.span s22 (by omega)
    replace B : Below w.heap.size w w22 := B.trans (s22.below (by omega) B.size)
    clear hH
    have y22 := s22.size
    clear s22
    obtain ⟨tA0, tA1, tA2, _, _, _⟩ := id tA
    obtain ⟨tF0, tF1, tF2, _, _, _⟩ := id tF
    obtain ⟨tW0, tW1, tW2, _, _, _⟩ := id tW
    obtain ⟨tX0, tX1, tX2, _, _, _⟩ := id tX
    obtain ⟨tY0, tY1, tY2, _, _, _⟩ := id tY
    obtain ⟨tG0, tG1, tG2, _, _, _⟩ := id tG
    obtain ⟨dW0, dW1, _, _⟩ := id dW
    obtain ⟨dG0, dG1, _, _⟩ := id dG
    go_wp2_with fail
    have nK : ¬ K < 0 := by omega
    have nM : ¬ M < 0 := by omega
    refine (heldCalG_any hM).mono ?_
    rintro e w23 ⟨rfl, b23⟩
    clear tA0 tA1 tA2 tF0 tF1 tF2 tW0 tW1 tW2 tX0 tX1 tX2 tY0 tY1 tY2 tG0 tG1 tG2 dW0 dW1 dG0 dG1
    replace tA := tA.keep b23
    replace tF := tF.keep b23
    replace tW := tW.keep b23
    replace tX := tX.keep b23
    replace tY := tY.keep b23
    replace tG := tG.keep b23
    replace dW := dW.keep b23
    replace dG := dG.keep b23
    replace hcal := hcal.below b23
    replace hM := hM.below b23
    replace B : Below w.heap.size w w23 := B.trans (b23.mono B.size)
    have y23 := b23.size
    clear b23
    obtain ⟨tA0, tA1, tA2, _, _, _⟩ := id tA
    obtain ⟨tF0, tF1, tF2, _, _, _⟩ := id tF
    obtain ⟨tW0, tW1, tW2, _, _, _⟩ := id tW
    obtain ⟨tX0, tX1, tX2, _, _, _⟩ := id tX
    obtain ⟨tY0, tY1, tY2, _, _, _⟩ := id tY
    obtain ⟨tG0, tG1, tG2, _, _, _⟩ := id tG
    obtain ⟨dW0, dW1, _, _⟩ := id dW
    obtain ⟨dG0, dG1, _, _⟩ := id dG
    go_wp2_with fail
    refine (heldCalS_any hM).mono ?_
    rintro e w24 ⟨rfl, b24⟩
    clear tA0 tA1 tA2 tF0 tF1 tF2 tW0 tW1 tW2 tX0 tX1 tX2 tY0 tY1 tY2 tG0 tG1 tG2 dW0 dW1 dG0 dG1
    replace tA := tA.keep b24
    replace tF := tF.keep b24
    replace tW := tW.keep b24
    replace tX := tX.keep b24
    replace tY := tY.keep b24
    replace tG := tG.keep b24
    replace dW := dW.keep b24
    replace dG := dG.keep b24
    replace hcal := hcal.below b24
    replace hM := hM.below b24
    replace B : Below w.heap.size w w24 := B.trans (b24.mono B.size)
    have y24 := b24.size
    clear b24
    obtain ⟨tA0, tA1, tA2, _, _, _⟩ := id tA
    obtain ⟨tF0, tF1, tF2, _, _, _⟩ := id tF
    obtain ⟨tW0, tW1, tW2, _, _, _⟩ := id tW
    obtain ⟨tX0, tX1, tX2, _, _, _⟩ := id tX
    obtain ⟨tY0, tY1, tY2, _, _, _⟩ := id tY
    obtain ⟨tG0, tG1, tG2, _, _, _⟩ := id tG
    obtain ⟨dW0, dW1, _, _⟩ := id dW
    obtain ⟨dG0, dG1, _, _⟩ := id dG
    go_wp2_with fail
    clear tA0 tA1 tA2 tF0 tF1 tF2 tW0 tW1 tW2 tX0 tX1 tX2 tY0 tY1 tY2 tG0 tG1 tG2 dW0 dW1 dG0 dG1
    have wAl3 : w.heap.size < w24.heap.size := block_lt_of_cell tA.c0
    have wFl3 : w.heap.size + 1 < w24.heap.size := block_lt_of_cell tF.c0
    have HSS : Hid (∀ u : World, Below w24.heap.size w24 u → u.cell? ⟨w.heap.size, 0, none⟩ = some (.slice a0 g.ins.length c0) ∧ u.cell? ⟨w.heap.size, 1, none⟩ = some (.slice a1 g.wins.length c1) ∧ u.cell? ⟨w.heap.size, 2, none⟩ = some (.slice a2 g.shown.length c2) ∧ u.cell? ⟨w.heap.size + 1, 0, none⟩ = some (.int .i64 i) ∧ u.cell? ⟨w.heap.size + 1, 1, none⟩ = some (.int .i64 x) ∧ u.cell? ⟨w.heap.size + 1, 2, none⟩ = some (.slice am m.length cm)) := fun u hu => ⟨cell_on hu wAl3 tA.c0, cell_on hu wAl3 tA.c1, cell_on hu wAl3 tA.c2, cell_on hu wFl3 tF.c0, cell_on hu wFl3 tF.c1, cell_on hu wFl3 tF.c2⟩
    refine wp_region_inv (by kernel_rfl) (by kernel_rfl) (fun f a uu => ∃ (RR : ResG) (bb9 bb10 X0 X1 X2 Xl Xh Xf : Nat) (vv6 vv7 vv8 vv30 vv31 vv32 vv33 vv34 vv35 vv36 vv37 vv38 : Value), a = { tmps := #[Value.agg #[Value.slice a0 g.ins.length c0, Value.slice a1 g.wins.length c1, Value.slice a2 g.shown.length c2], Value.agg #[Value.int IntKind.i64 i, Value.int IntKind.i64 x, Value.slice am m.length cm], Value.pointer (some { block := w.heap.size, off := 0 }), Value.pointer (some { block := w.heap.size + 1, off := 0 }), Value.bool false, Value.int IntKind.i64 q, Value.pointer (some { block := b9, off := 0 }), Value.pointer (some { block := b10, off := 0 }), Value.int IntKind.i64 R.code, Value.pointer (some { block := w3.heap.size, off := 0 }), Value.pointer (some { block := w5.heap.size, off := 0 }), Value.pointer (some { block := w7.heap.size, off := 0 }), Value.pointer (some { block := w7.heap.size + 1, off := 0 }), Value.int IntKind.i64 R.code, Value.int IntKind.i64 (k + 2 * (m.length : Int)), Value.int IntKind.i64 M, Value.int IntKind.i64 M, vv6, vv7, vv8, Value.agg #[Value.slice a0 g.ins.length c0, Value.slice a1 g.wins.length c1, Value.slice a2 g.shown.length c2], Value.int IntKind.i64 1048576, Value.int IntKind.i64 r, Value.int IntKind.i64 r, Value.bool (decide (r < 0)), Value.agg #[Value.int IntKind.i64 i, Value.int IntKind.i64 x, Value.slice am m.length cm], Value.int IntKind.i64 r, Value.int IntKind.i64 q, Value.int IntKind.i64 q, Value.bool (decide (q < 0)), v30, v31, v32, v33, v34, R.all, v36, v37, v38, Value.agg #[Value.slice a0 g.ins.length c0, Value.slice a1 g.wins.length c1, Value.slice a2 g.shown.length c2], Value.agg #[Value.slice (some { block := p0, off := 0 }) g.ins.length g.ins.length, Value.slice (some { block := p1, off := 0 }) g.wins.length g.wins.length, Value.slice (some { block := p2, off := 0 }) g.shown.length g.shown.length], Value.agg #[Value.int IntKind.i64 i, Value.int IntKind.i64 x, Value.slice am m.length cm], Value.agg #[Value.int IntKind.i64 i, Value.int IntKind.i64 x, Value.slice (some { block := pf, off := 0 }) m.length m.length], (ResG.all ⟨R.g, rL, R.sv, R.ss, R.code, q0, q1, q2, q3, q4, f0, f1, f2, f3, f4, w5.heap.size + 1, h1, h2, w7.heap.size⟩), Value.agg #[Value.slice (some { block := p0, off := 0 }) g.ins.length g.ins.length, Value.slice (some { block := p1, off := 0 }) g.wins.length g.wins.length, Value.slice (some { block := p2, off := 0 }) g.shown.length g.shown.length], Value.agg #[Value.int IntKind.i64 i, Value.int IntKind.i64 x, Value.slice (some { block := pf, off := 0 }) m.length m.length], (ResG.all ⟨R.g, rL, R.sv, R.ss, R.code, q0, q1, q2, q3, q4, f0, f1, f2, f3, f4, w5.heap.size + 1, h1, h2, w7.heap.size⟩), (ResG.gv ⟨R.g, rL, R.sv, R.ss, R.code, q0, q1, q2, q3, q4, f0, f1, f2, f3, f4, w5.heap.size + 1, h1, h2, w7.heap.size⟩), (ResG.wv ⟨R.g, rL, R.sv, R.ss, R.code, q0, q1, q2, q3, q4, f0, f1, f2, f3, f4, w5.heap.size + 1, h1, h2, w7.heap.size⟩), Value.int IntKind.i64 R.code, Value.agg #[Value.slice q0 R.g.ins.length f0, Value.slice q1 rL.length f1, Value.slice q2 R.g.shown.length f2], Value.agg #[Value.slice R.s0 R.g.ins.length R.d0, Value.slice R.s1 R.L.length R.d1, Value.slice R.s2 R.g.shown.length R.d2], Value.bool true, Value.bool false, Value.bool false, Value.agg #[Value.slice q3 R.sv.length f3, Value.slice q4 R.ss.length f4], Value.agg #[Value.slice R.s3 R.sv.length R.d3, Value.slice R.s4 R.ss.length R.d4], Value.bool true, Value.bool false, Value.bool false, Value.bool false, Value.int IntKind.i64 R.code, Value.int IntKind.i64 R.code, Value.bool false, Value.bool false, Value.agg #[Value.slice (some { block := p0, off := 0 }) g.ins.length g.ins.length, Value.slice (some { block := p1, off := 0 }) g.wins.length g.wins.length, Value.slice (some { block := p2, off := 0 }) g.shown.length g.shown.length], Value.agg #[Value.slice a0 g.ins.length c0, Value.slice a1 g.wins.length c1, Value.slice a2 g.shown.length c2], Value.agg #[Value.slice (some { block := P0, off := 0 }) g.ins.length g.ins.length, Value.slice (some { block := P1, off := 0 }) g.wins.length g.wins.length, Value.slice (some { block := P2, off := 0 }) g.shown.length g.shown.length], Value.bool true, Value.bool false, Value.agg #[Value.int IntKind.i64 i, Value.int IntKind.i64 x, Value.slice (some { block := pf, off := 0 }) m.length m.length], Value.agg #[Value.int IntKind.i64 i, Value.int IntKind.i64 x, Value.slice am m.length cm], Value.agg #[Value.int IntKind.i64 i, Value.int IntKind.i64 x, Value.slice (some { block := Pf, off := 0 }) m.length m.length], Value.bool true, Value.bool false, Value.agg #[Value.slice (some { block := p0, off := 0 }) g.ins.length g.ins.length, Value.slice (some { block := p1, off := 0 }) g.wins.length g.wins.length, Value.slice (some { block := p2, off := 0 }) g.shown.length g.shown.length], Value.int IntKind.i64 1, Value.int IntKind.i64 k, Value.agg #[Value.int IntKind.i64 i, Value.int IntKind.i64 x, Value.slice (some { block := pf, off := 0 }) m.length m.length], Value.int IntKind.i64 k, Value.int IntKind.i64 (k + 2 * (m.length : Int)), Value.int IntKind.i64 (k + 2 * (m.length : Int)), Value.bool (decide (k + 2 * (m.length : Int) < 0)), Value.bool (decide (k + 2 * (m.length : Int) < 0)), Value.agg #[Value.slice q0 R.g.ins.length f0, Value.slice q1 rL.length f1, Value.slice q2 R.g.shown.length f2], Value.agg #[Value.slice R.s0 R.g.ins.length R.d0, Value.slice R.s1 R.L.length R.d1, Value.slice R.s2 R.g.shown.length R.d2], Value.bool true, Value.bool false, Value.bool (decide (k + 2 * (m.length : Int) < 0)), Value.bool (decide (k + 2 * (m.length : Int) < 0)), Value.agg #[Value.slice q3 R.sv.length f3, Value.slice q4 R.ss.length f4], Value.agg #[Value.slice R.s3 R.sv.length R.d3, Value.slice R.s4 R.ss.length R.d4], Value.bool true, Value.bool false, Value.bool (decide (k + 2 * (m.length : Int) < 0)), Value.bool (decide (k + 2 * (m.length : Int) < 0)), Value.int IntKind.i64 R.code, Value.int IntKind.i64 R.code, Value.bool false, Value.bool (decide (k + 2 * (m.length : Int) < 0)), Value.agg #[Value.slice q0 R.g.ins.length f0, Value.slice q1 rL.length f1, Value.slice q2 R.g.shown.length f2], Value.int IntKind.i64 1, Value.int IntKind.i64 K, Value.agg #[Value.slice q3 R.sv.length f3, Value.slice q4 R.ss.length f4], Value.int IntKind.i64 K, Value.int IntKind.i64 M, Value.agg #[Value.slice q0 R.g.ins.length f0, Value.slice q1 rL.length f1, Value.slice q2 R.g.shown.length f2], Value.int IntKind.i64 1, Value.int IntKind.i64 K, Value.int IntKind.i64 K, Value.bool (decide (K < 0)), Value.agg #[Value.slice q3 R.sv.length f3, Value.slice q4 R.ss.length f4], Value.int IntKind.i64 K, Value.int IntKind.i64 M, Value.int IntKind.i64 M, Value.bool (decide (M < 0)), Value.int IntKind.i64 M, Value.int IntKind.i64 M, Value.bool false, vv30, vv31, vv32, vv33, vv34, vv35, vv36, vv37, vv38, undef, undef, undef, undef, undef, undef, undef, undef, undef, undef, undef, undef, undef, undef, undef, undef, undef, undef, undef, undef, undef, undef, undef, undef, undef, undef, undef, undef], defers := [] } ∧ Fx (CalI g i x m) w24 (.agg #[.slice a0 g.ins.length c0, .slice a1 g.wins.length c1, .slice a2 g.shown.length c2]) (.agg #[.int .i64 i, .int .i64 x, .slice am m.length cm]) g i x m f RR bb9 bb10 X0 X1 X2 Xl Xh Xf vv6 vv7 vv8 vv30 vv31 vv32 vv33 vv34 vv35 vv36 vv37 vv38 uu) ?start ?step ?fin
    case start =>
      refine ⟨⟨⟨[], [], []⟩, [], [], [], 0, none, none, none, none, none, 0, 0, 0, 0, 0, 0, 0, 0, 0⟩, 0, 0, 0, 0, 0, 0, 0, 0, undef, undef, undef, undef, undef, undef, undef, undef, undef, undef, undef, undef, rfl, ?_⟩
      exact { bel := (Below.refl _ _).drew, k0 := (fun h => by cases h), k1 := (fun h => by cases h), k2 := (fun h => by cases h), k3 := (fun h => by cases h), k4 := (fun h => by cases h), k5 := (fun h => by cases h), k6 := (fun h => by cases h), k7 := (fun h => by cases h), k8 := (fun h => by cases h), k9 := (fun h => by cases h), k10 := (fun h => by cases h), k13 := (fun h => by cases h), ne := (fun h => by cases h), c4 := (fun h => by cases h), c5 := (fun h => by cases h), c6 := (fun h => by cases h), c7 := (fun h => by cases h), c8 := (fun h => by cases h), c11 := (fun h => by cases h), c12 := (fun h => by cases h), c13 := (fun h => by cases h) }
    case step =>
      rintro f a uu j ⟨RR, bb9, bb10, X0, X1, X2, Xl, Xh, Xf, vv6, vv7, vv8, vv30, vv31, vv32, vv33, vv34, vv35, vv36, vv37, vv38, rfl, hF⟩ hj hfj hw
      obtain ⟨z0, z1, z2, z3, z4, z5⟩ := HSS.out _ hF.bel
      have hj' : j < 14 := hj
      have BW : Below w.heap.size w uu := B.trans (hF.bel.mono B.size)
      have hC : ∀ RR uu u', CalI g i x m RR uu → Below uu.heap.size uu u' → CalI g i x m RR u' := fun RR uu u' h hb => h.below hb
      rcases (by omega : j = 0 ∨ j = 1 ∨ j = 2 ∨ j = 3 ∨ j = 4 ∨ j = 5 ∨ j = 6 ∨ j = 7 ∨ j = 8 ∨ j = 9 ∨ j = 10 ∨ j = 11 ∨ j = 12 ∨ j = 13) with rfl | rfl | rfl | rfl | rfl | rfl | rfl | rfl | rfl | rfl | rfl | rfl | rfl | rfl
      · refine wpOp_wanted rfl (by kernel_rfl) ?_
        go_simp
        exact ⟨RR, bb9, bb10, X0, X1, X2, Xl, Xh, Xf, _, _, _, _, _, _, _, _, _, _, _, _, ⟨rfl, rfl, rfl, rfl, rfl, rfl, rfl, rfl, rfl, rfl, rfl, rfl⟩, { hF with k0 := fun _ => rfl }⟩
      · have h0 : f 0 = true := hw 0 (of_decide_eq_true (by kernel_rfl))
        obtain rfl := hF.k0 h0
        refine wpOp_wanted rfl (by kernel_rfl) ?_
        go_simp
        refine (toGather_any a0 a1 a2 c0 c1 c2 g _ (r0.below BW) (r1.below BW) (r2.below BW) HSG.out.1).mono ?_
        rintro e n ⟨⟨p0', p1', p2', pl', ph', rfl, _, _, _, _, hx0, hx1, hx2⟩, bx⟩
        have hF' := hF.below hC bx
        exact ⟨RR, bb9, bb10, p0', p1', p2', pl', ph', Xf, _, _, _, _, _, _, _, _, _, _, _, _, ⟨rfl, rfl, rfl, rfl, rfl, rfl, rfl, rfl, rfl, rfl, rfl, rfl⟩, { hF' with k1 := fun _ => ⟨rfl, fun _ => ⟨hx0, hx1, hx2⟩⟩, c4 := fun e => ⟨rfl, (hF.c4 e).2⟩ }⟩
      · refine wpOp_wanted rfl (by kernel_rfl) ?_
        go_simp
        exact ⟨RR, bb9, bb10, X0, X1, X2, Xl, Xh, Xf, _, _, _, _, _, _, _, _, _, _, _, _, ⟨rfl, rfl, rfl, rfl, rfl, rfl, rfl, rfl, rfl, rfl, rfl, rfl⟩, { hF with k2 := fun _ => rfl }⟩
      · have h2 : f 2 = true := hw 2 (of_decide_eq_true (by kernel_rfl))
        obtain rfl := hF.k2 h2
        refine wpOp_wanted rfl (by kernel_rfl) ?_
        go_simp
        refine (toFeed_any i x am cm m _ (rm.below BW) hml).mono ?_
        rintro e n ⟨⟨pf', _, rfl, hxf⟩, bx⟩
        have hF' := hF.below hC bx
        exact ⟨RR, bb9, bb10, X0, X1, X2, Xl, Xh, pf', _, _, _, _, _, _, _, _, _, _, _, _, ⟨rfl, rfl, rfl, rfl, rfl, rfl, rfl, rfl, rfl, rfl, rfl, rfl⟩, { hF' with k3 := fun _ => ⟨rfl, fun _ => hxf⟩, c4 := fun e => ⟨(hF.c4 e).1, rfl⟩ }⟩
      · have h1 : f 1 = true := hw 1 (of_decide_eq_true (by kernel_rfl))
        have h3 : f 3 = true := hw 3 (of_decide_eq_true (by kernel_rfl))
        obtain ⟨rfl, hx⟩ := hF.k1 h1
        obtain ⟨rfl, hxf⟩ := hF.k3 h3
        obtain ⟨hx0, hx1, hx2⟩ := hx hfj
        replace hxf := hxf hfj
        refine wpOp_wanted rfl (by kernel_rfl) ?_
        go_simp
        refine (implGP_any (some ⟨X0, 0, none⟩) (some ⟨X1, 0, none⟩) (some ⟨X2, 0, none⟩) (some ⟨Xf, 0, none⟩) g.ins.length g.wins.length g.shown.length m.length g i x m _ hf hil (Nat.le_refl _) hf.ins.1 hx0.row hx1.row hx2.row hfm (Nat.le_refl _) hxf.row (het.below BW)).mono ?_
        rintro e n ⟨hE, bx⟩
        obtain ⟨R', rfl, e1, e2, hJ⟩ := hE.cal
        have hF' := hF.below hC bx
        have no5 : f 5 = true → False := fun h => by have := hF.c5 h; rw [hfj] at this; cases this
        have no6 : f 6 = true → False := fun h => by have := hF.c6 h; rw [hfj] at this; cases this
        have no7 : f 7 = true → False := fun h => by have := hF.c7 h; rw [hfj] at this; cases this
        have no8 : f 8 = true → False := fun h => by have := hF.c8 h; rw [hfj] at this; cases this
        have no11 : f 11 = true → False := fun h => by have := (hF.c11 h).1; rw [hfj] at this; cases this
        have no12 : f 12 = true → False := fun h => by have := (hF.c12 h).1; rw [hfj] at this; cases this
        have no13 : f 13 = true → False := fun h => by have := hF.c13 h; rw [hfj] at this; cases this
        have zW := hF.bel.size
        exact ⟨R', bb9, bb10, X0, X1, X2, Xl, Xh, Xf, _, _, _, _, _, _, _, _, _, _, _, _, ⟨rfl, rfl, rfl, rfl, rfl, rfl, rfl, rfl, rfl, rfl, rfl, rfl⟩, { bel := hF'.bel, k0 := hF'.k0, k1 := fun e => ⟨(hF'.k1 e).1, fun e' => by cases e'⟩, k2 := hF'.k2, k3 := fun e => ⟨(hF'.k3 e).1, fun e' => by cases e'⟩, k4 := fun _ => ⟨rfl, hJ, by rw [e1]; exact zW⟩, k5 := fun e => (no5 e).elim, k6 := fun e => (no6 e).elim, k7 := fun e => (no7 e).elim, k8 := fun e => (no8 e).elim, k9 := fun e => let ⟨q0, q1, q2, q3, q4, q5⟩ := hF'.k9 e; ⟨q0, q1, q2, fun _ => .inl (by rw [e1]; exact (hF.k9 e).2.2.1), q4, fun e' => (no11 e').elim⟩, k10 := fun e => let ⟨q0, q1, q2, q3, q4, q5⟩ := hF'.k10 e; ⟨q0, q1, q2, fun _ => .inl (by rw [e1]; exact (hF.k10 e).2.2.1), q4, fun e' => (no12 e').elim⟩, k13 := fun e => (no13 e).elim, ne := hF'.ne, c4 := fun _ => ⟨h1, h3⟩, c5 := fun _ => rfl, c6 := fun _ => rfl, c7 := fun _ => rfl, c8 := fun _ => rfl, c11 := fun e => (no11 e).elim, c12 := fun e => (no12 e).elim, c13 := fun e => (no13 e).elim }⟩
      · have h4 : f 4 = true := hw 4 (of_decide_eq_true (by kernel_rfl))
        obtain ⟨rfl, _, _⟩ := hF.k4 h4
        refine wpOp_wanted rfl (by kernel_rfl) ?_
        go_simp
        exact ⟨RR, bb9, bb10, X0, X1, X2, Xl, Xh, Xf, _, _, _, _, _, _, _, _, _, _, _, _, ⟨rfl, rfl, rfl, rfl, rfl, rfl, rfl, rfl, rfl, rfl, rfl, rfl⟩, { hF with k5 := fun _ => rfl, c5 := fun _ => h4 }⟩
      · have h5 : f 5 = true := hw 5 (of_decide_eq_true (by kernel_rfl))
        have h4 := hF.c5 h5
        obtain rfl := hF.k5 h5
        refine wpOp_wanted rfl (by kernel_rfl) ?_
        go_simp
        exact ⟨RR, bb9, bb10, X0, X1, X2, Xl, Xh, Xf, _, _, _, _, _, _, _, _, _, _, _, _, ⟨rfl, rfl, rfl, rfl, rfl, rfl, rfl, rfl, rfl, rfl, rfl, rfl⟩, { hF with k6 := fun _ => rfl, c6 := fun _ => h4 }⟩
      · have h5 : f 5 = true := hw 5 (of_decide_eq_true (by kernel_rfl))
        have h4 := hF.c5 h5
        obtain rfl := hF.k5 h5
        refine wpOp_wanted rfl (by kernel_rfl) ?_
        go_simp
        exact ⟨RR, bb9, bb10, X0, X1, X2, Xl, Xh, Xf, _, _, _, _, _, _, _, _, _, _, _, _, ⟨rfl, rfl, rfl, rfl, rfl, rfl, rfl, rfl, rfl, rfl, rfl, rfl⟩, { hF with k7 := fun _ => rfl, c7 := fun _ => h4 }⟩
      · have h5 : f 5 = true := hw 5 (of_decide_eq_true (by kernel_rfl))
        have h4 := hF.c5 h5
        obtain rfl := hF.k5 h5
        refine wpOp_wanted rfl (by kernel_rfl) ?_
        go_simp
        exact ⟨RR, bb9, bb10, X0, X1, X2, Xl, Xh, Xf, _, _, _, _, _, _, _, _, _, _, _, _, ⟨rfl, rfl, rfl, rfl, rfl, rfl, rfl, rfl, rfl, rfl, rfl, rfl⟩, { hF with k8 := fun _ => rfl, c8 := fun _ => h4 }⟩
      · refine wpOp_wanted rfl (by kernel_rfl) ?_
        go_simp
        have bx : Below uu.heap.size uu (uu.alloc (.cells #[.slice none 0 0, .slice none 0 0, .slice none 0 0] 36)) := (Below.refl _ _).alloc (Nat.le_refl _) _
        have hF' := hF.below hC bx
        have no11 : f 11 = true → False := fun h => by have := (hF.c11 h).2; rw [hfj] at this; cases this
        have hnew := tri_new uu (.slice none 0 0) (.slice none 0 0) (.slice none 0 0) 36
        have zW := hF.bel.size
        exact ⟨RR, uu.heap.size, bb10, X0, X1, X2, Xl, Xh, Xf, _, _, _, _, _, _, _, _, _, _, _, _, ⟨rfl, rfl, rfl, rfl, rfl, rfl, rfl, rfl, rfl, rfl, rfl, rfl⟩, { hF' with k9 := fun _ => ⟨rfl, zW, by simp, fun e => .inr (hF.k4 e).2.1.o4, fun _ => hnew, fun e => (no11 e).elim⟩, ne := fun _ e => Nat.ne_of_gt (hF.k10 e).2.2.1, c11 := fun e => (no11 e).elim }⟩
      · refine wpOp_wanted rfl (by kernel_rfl) ?_
        go_simp
        have bx : Below uu.heap.size uu (uu.alloc (.cells #[.slice none 0 0, .slice none 0 0] 39)) := (Below.refl _ _).alloc (Nat.le_refl _) _
        have hF' := hF.below hC bx
        have no12 : f 12 = true → False := fun h => by have := (hF.c12 h).2; rw [hfj] at this; cases this
        have hnew := duo_new uu (.slice none 0 0) (.slice none 0 0) 39
        have zW := hF.bel.size
        exact ⟨RR, bb9, uu.heap.size, X0, X1, X2, Xl, Xh, Xf, _, _, _, _, _, _, _, _, _, _, _, _, ⟨rfl, rfl, rfl, rfl, rfl, rfl, rfl, rfl, rfl, rfl, rfl, rfl⟩, { hF' with k10 := fun _ => ⟨rfl, zW, by simp, fun e => .inr (hF.k4 e).2.1.o4, fun _ => hnew, fun e => (no12 e).elim⟩, ne := fun e _ => Nat.ne_of_lt (hF.k9 e).2.2.1, c12 := fun e => (no12 e).elim }⟩
      · have h9 : f 9 = true := hw 9 (of_decide_eq_true (by kernel_rfl))
        have h6 : f 6 = true := hw 6 (of_decide_eq_true (by kernel_rfl))
        have h10 : f 10 = true := hw 10 (of_decide_eq_true (by kernel_rfl))
        have h4 := hF.c6 h6
        obtain rfl := hF.k6 h6
        obtain ⟨rfl, q1, q2, q3, q4, _⟩ := hF.k9 h9
        have tt := q4 hfj
        obtain ⟨i0, i1, i2, o0, o1, o2⟩ := id tt
        refine wpOp_wanted rfl (by kernel_rfl) ?_
        go_simp
        have sx : Span bb9 (bb9 + 1) uu (((uu.setCell ⟨bb9, 0, none⟩ (.slice RR.s0 RR.g.ins.length RR.d0)).setCell ⟨bb9, 1, none⟩ (.slice RR.s1 RR.L.length RR.d1)).setCell ⟨bb9, 2, none⟩ (.slice RR.s2 RR.g.shown.length RR.d2)) := (((Span.refl _ _ _).setCell (Nat.le_refl _) (Nat.lt_succ_self _) _ _).setCell (Nat.le_refl _) (Nat.lt_succ_self _) _ _).setCell (Nat.le_refl _) (Nat.lt_succ_self _) _ _
        have tn := ((tt.set0 (.slice RR.s0 RR.g.ins.length RR.d0)).set1 (.slice RR.s1 RR.L.length RR.d1)).set2c (.slice RR.s2 RR.g.shown.length RR.d2)
        have zx : (((uu.setCell ⟨bb9, 0, none⟩ (.slice RR.s0 RR.g.ins.length RR.d0)).setCell ⟨bb9, 1, none⟩ (.slice RR.s1 RR.L.length RR.d1)).setCell ⟨bb9, 2, none⟩ (.slice RR.s2 RR.g.shown.length RR.d2)).heap.size = uu.heap.size := by simp
        have far := q3 h4
        have ne := hF.ne h9 h10
        have hb := hF.bel.trans (sx.below q1 hF.bel.size)
        generalize (((uu.setCell ⟨bb9, 0, none⟩ (.slice RR.s0 RR.g.ins.length RR.d0)).setCell ⟨bb9, 1, none⟩ (.slice RR.s1 RR.L.length RR.d1)).setCell ⟨bb9, 2, none⟩ (.slice RR.s2 RR.g.shown.length RR.d2)) = n at *
        exact ⟨RR, bb9, bb10, X0, X1, X2, Xl, Xh, Xf, _, _, _, _, _, _, _, _, _, _, _, _, ⟨rfl, rfl, rfl, rfl, rfl, rfl, rfl, rfl, rfl, rfl, rfl, rfl⟩, { bel := hb, k0 := hF.k0, k1 := fun e => ⟨(hF.k1 e).1, fun e' => by rw [show andDone f 11 4 = f 4 from rfl, h4] at e'; cases e'⟩, k2 := hF.k2, k3 := fun e => ⟨(hF.k3 e).1, fun e' => by rw [show andDone f 11 4 = f 4 from rfl, h4] at e'; cases e'⟩, k4 := fun e => let ⟨r0, r1, r2⟩ := hF.k4 e; ⟨r0, r1.span sx (by omega), r2⟩, k5 := hF.k5, k6 := hF.k6, k7 := hF.k7, k8 := hF.k8, k9 := fun _ => ⟨rfl, q1, by omega, fun _ => far, (fun e => by cases e), fun _ => tn⟩, k10 := fun e => let ⟨r0, r1, r2, r3, r4, r5⟩ := hF.k10 e; ⟨r0, r1, by omega, r3, fun e' => (r4 e').span sx (by omega), fun e' => (r5 e').span sx (by omega)⟩, k13 := hF.k13, ne := hF.ne, c4 := hF.c4, c5 := hF.c5, c6 := hF.c6, c7 := hF.c7, c8 := hF.c8, c11 := fun _ => ⟨h4, h9⟩, c12 := hF.c12, c13 := hF.c13 }⟩
      · have h10 : f 10 = true := hw 10 (of_decide_eq_true (by kernel_rfl))
        have h7 : f 7 = true := hw 7 (of_decide_eq_true (by kernel_rfl))
        have h9 : f 9 = true := hw 9 (of_decide_eq_true (by kernel_rfl))
        have h4 := hF.c7 h7
        obtain rfl := hF.k7 h7
        obtain ⟨rfl, q1, q2, q3, q4, _⟩ := hF.k10 h10
        have tt := q4 hfj
        obtain ⟨i0, i1, o0, o1⟩ := id tt
        refine wpOp_wanted rfl (by kernel_rfl) ?_
        go_simp
        have sx : Span bb10 (bb10 + 1) uu ((uu.setCell ⟨bb10, 0, none⟩ (.slice RR.s3 RR.sv.length RR.d3)).setCell ⟨bb10, 1, none⟩ (.slice RR.s4 RR.ss.length RR.d4)) := ((Span.refl _ _ _).setCell (Nat.le_refl _) (Nat.lt_succ_self _) _ _).setCell (Nat.le_refl _) (Nat.lt_succ_self _) _ _
        have tn := (tt.set0 (.slice RR.s3 RR.sv.length RR.d3)).set1 (.slice RR.s4 RR.ss.length RR.d4)
        have zx : ((uu.setCell ⟨bb10, 0, none⟩ (.slice RR.s3 RR.sv.length RR.d3)).setCell ⟨bb10, 1, none⟩ (.slice RR.s4 RR.ss.length RR.d4)).heap.size = uu.heap.size := by simp
        have far := q3 h4
        have ne := hF.ne h9 h10
        have hb := hF.bel.trans (sx.below q1 hF.bel.size)
        generalize ((uu.setCell ⟨bb10, 0, none⟩ (.slice RR.s3 RR.sv.length RR.d3)).setCell ⟨bb10, 1, none⟩ (.slice RR.s4 RR.ss.length RR.d4)) = n at *
        exact ⟨RR, bb9, bb10, X0, X1, X2, Xl, Xh, Xf, _, _, _, _, _, _, _, _, _, _, _, _, ⟨rfl, rfl, rfl, rfl, rfl, rfl, rfl, rfl, rfl, rfl, rfl, rfl⟩, { bel := hb, k0 := hF.k0, k1 := fun e => ⟨(hF.k1 e).1, fun e' => by rw [show andDone f 12 4 = f 4 from rfl, h4] at e'; cases e'⟩, k2 := hF.k2, k3 := fun e => ⟨(hF.k3 e).1, fun e' => by rw [show andDone f 12 4 = f 4 from rfl, h4] at e'; cases e'⟩, k4 := fun e => let ⟨r0, r1, r2⟩ := hF.k4 e; ⟨r0, r1.span sx (by omega), r2⟩, k5 := hF.k5, k6 := hF.k6, k7 := hF.k7, k8 := hF.k8, k10 := fun _ => ⟨rfl, q1, by omega, fun _ => far, (fun e => by cases e), fun _ => tn⟩, k9 := fun e => let ⟨r0, r1, r2, r3, r4, r5⟩ := hF.k9 e; ⟨r0, r1, by omega, r3, fun e' => (r4 e').span sx (by omega), fun e' => (r5 e').span sx (by omega)⟩, k13 := hF.k13, ne := hF.ne, c4 := hF.c4, c5 := hF.c5, c6 := hF.c6, c7 := hF.c7, c8 := hF.c8, c11 := hF.c11, c12 := fun _ => ⟨h4, h10⟩, c13 := hF.c13 }⟩
      · have h8 : f 8 = true := hw 8 (of_decide_eq_true (by kernel_rfl))
        have h4 := hF.c8 h8
        obtain rfl := hF.k8 h8
        refine wpOp_wanted rfl (by kernel_rfl) ?_
        go_simp
        exact ⟨RR, bb9, bb10, X0, X1, X2, Xl, Xh, Xf, _, _, _, _, _, _, _, _, _, _, _, _, ⟨rfl, rfl, rfl, rfl, rfl, rfl, rfl, rfl, rfl, rfl, rfl, rfl⟩, { hF with k13 := fun _ => rfl, c13 := fun _ => h4 }⟩
    case fin =>
      rintro f a uu ⟨RR, bb9, bb10, X0, X1, X2, Xl, Xh, Xf, vv6, vv7, vv8, vv30, vv31, vv32, vv33, vv34, vv35, vv36, vv37, vv38, rfl, hF⟩ hall
      obtain ⟨rfl, hJ, wzt⟩ := hF.k4 (hall 4 (of_decide_eq_true (by kernel_rfl)))
      obtain ⟨rfl, wz9, lz9, fz9, _, tH⟩ := hF.k9 (hall 9 (of_decide_eq_true (by kernel_rfl)))
      obtain ⟨rfl, wz10, lz10, fz10, _, dH⟩ := hF.k10 (hall 10 (of_decide_eq_true (by kernel_rfl)))
      obtain rfl := hF.k13 (hall 13 (of_decide_eq_true (by kernel_rfl)))
      replace tH := tH (hall 11 (of_decide_eq_true (by kernel_rfl)))
      replace dH := dH (hall 12 (of_decide_eq_true (by kernel_rfl)))
      have bu := hF.bel
      clear hF hall HSS
      replace tA := tA.keep bu
      replace tF := tF.keep bu
      replace tW := tW.keep bu
      replace tX := tX.keep bu
      replace tY := tY.keep bu
      replace tG := tG.keep bu
      replace dW := dW.keep bu
      replace dG := dG.keep bu
      replace hcal := hcal.below bu
      replace hM := hM.below bu
      replace B : Below w.heap.size w uu := B.trans (bu.mono B.size)
      clear bu
      have hcd : RR.code = R.code := (cal_same hcal hJ).2.2.2.1.symm
      rw [hcd]
      clear hcd
      obtain ⟨tA0, tA1, tA2, _, _, _⟩ := id tA
      obtain ⟨tF0, tF1, tF2, _, _, _⟩ := id tF
      obtain ⟨tW0, tW1, tW2, _, _, _⟩ := id tW
      obtain ⟨tX0, tX1, tX2, _, _, _⟩ := id tX
      obtain ⟨tY0, tY1, tY2, _, _, _⟩ := id tY
      obtain ⟨tG0, tG1, tG2, _, _, _⟩ := id tG
      obtain ⟨tH0, tH1, tH2, _, _, _⟩ := id tH
      obtain ⟨dW0, dW1, _, _⟩ := id dW
      obtain ⟨dG0, dG1, _, _⟩ := id dG
      obtain ⟨dH0, dH1, _, _⟩ := id dH
      go_wp2_with fail
      refine (eqCal_any hcal hJ).mono ?_
      rintro e w25 ⟨rfl, b25⟩
      clear tA0 tA1 tA2 tF0 tF1 tF2 tW0 tW1 tW2 tX0 tX1 tX2 tY0 tY1 tY2 tG0 tG1 tG2 tH0 tH1 tH2 dW0 dW1 dG0 dG1 dH0 dH1
      replace tA := tA.keep b25
      replace tF := tF.keep b25
      replace tW := tW.keep b25
      replace tX := tX.keep b25
      replace tY := tY.keep b25
      replace tG := tG.keep b25
      replace tH := tH.keep b25
      replace dW := dW.keep b25
      replace dG := dG.keep b25
      replace dH := dH.keep b25
      replace hcal := hcal.below b25
      replace hM := hM.below b25
      replace hJ := hJ.below b25
      replace B : Below w.heap.size w w25 := B.trans (b25.mono B.size)
      have y25 := b25.size
      clear b25
      obtain ⟨tA0, tA1, tA2, _, _, _⟩ := id tA
      obtain ⟨tF0, tF1, tF2, _, _, _⟩ := id tF
      obtain ⟨tW0, tW1, tW2, _, _, _⟩ := id tW
      obtain ⟨tX0, tX1, tX2, _, _, _⟩ := id tX
      obtain ⟨tY0, tY1, tY2, _, _, _⟩ := id tY
      obtain ⟨tG0, tG1, tG2, _, _, _⟩ := id tG
      obtain ⟨tH0, tH1, tH2, _, _, _⟩ := id tH
      obtain ⟨dW0, dW1, _, _⟩ := id dW
      obtain ⟨dG0, dG1, _, _⟩ := id dG
      obtain ⟨dH0, dH1, _, _⟩ := id dH
      go_wp2_with fail
      refine (eqCalS_any hcal hJ).mono ?_
      rintro e w26 ⟨rfl, b26⟩
      clear tA0 tA1 tA2 tF0 tF1 tF2 tW0 tW1 tW2 tX0 tX1 tX2 tY0 tY1 tY2 tG0 tG1 tG2 tH0 tH1 tH2 dW0 dW1 dG0 dG1 dH0 dH1
      replace tA := tA.keep b26
      replace tF := tF.keep b26
      replace tW := tW.keep b26
      replace tX := tX.keep b26
      replace tY := tY.keep b26
      replace tG := tG.keep b26
      replace tH := tH.keep b26
      replace dW := dW.keep b26
      replace dG := dG.keep b26
      replace dH := dH.keep b26
      replace hcal := hcal.below b26
      replace hM := hM.below b26
      replace hJ := hJ.below b26
      replace B : Below w.heap.size w w26 := B.trans (b26.mono B.size)
      have y26 := b26.size
      clear b26
      obtain ⟨tA0, tA1, tA2, _, _, _⟩ := id tA
      obtain ⟨tF0, tF1, tF2, _, _, _⟩ := id tF
      obtain ⟨tW0, tW1, tW2, _, _, _⟩ := id tW
      obtain ⟨tX0, tX1, tX2, _, _, _⟩ := id tX
      obtain ⟨tY0, tY1, tY2, _, _, _⟩ := id tY
      obtain ⟨tG0, tG1, tG2, _, _, _⟩ := id tG
      obtain ⟨tH0, tH1, tH2, _, _, _⟩ := id tH
      obtain ⟨dW0, dW1, _, _⟩ := id dW
      obtain ⟨dG0, dG1, _, _⟩ := id dG
      obtain ⟨dH0, dH1, _, _⟩ := id dH
      go_wp2_with fail
      refine (heldCalG_any hM).mono ?_
      rintro e w27 ⟨rfl, b27⟩
      clear tA0 tA1 tA2 tF0 tF1 tF2 tW0 tW1 tW2 tX0 tX1 tX2 tY0 tY1 tY2 tG0 tG1 tG2 tH0 tH1 tH2 dW0 dW1 dG0 dG1 dH0 dH1
      replace tA := tA.keep b27
      replace tF := tF.keep b27
      replace tW := tW.keep b27
      replace tX := tX.keep b27
      replace tY := tY.keep b27
      replace tG := tG.keep b27
      replace tH := tH.keep b27
      replace dW := dW.keep b27
      replace dG := dG.keep b27
      replace dH := dH.keep b27
      replace hcal := hcal.below b27
      replace hM := hM.below b27
      replace hJ := hJ.below b27
      replace B : Below w.heap.size w w27 := B.trans (b27.mono B.size)
      have y27 := b27.size
      clear b27
      obtain ⟨tA0, tA1, tA2, _, _, _⟩ := id tA
      obtain ⟨tF0, tF1, tF2, _, _, _⟩ := id tF
      obtain ⟨tW0, tW1, tW2, _, _, _⟩ := id tW
      obtain ⟨tX0, tX1, tX2, _, _, _⟩ := id tX
      obtain ⟨tY0, tY1, tY2, _, _, _⟩ := id tY
      obtain ⟨tG0, tG1, tG2, _, _, _⟩ := id tG
      obtain ⟨tH0, tH1, tH2, _, _, _⟩ := id tH
      obtain ⟨dW0, dW1, _, _⟩ := id dW
      obtain ⟨dG0, dG1, _, _⟩ := id dG
      obtain ⟨dH0, dH1, _, _⟩ := id dH
      go_wp2_with fail
      refine (heldCalS_any hM).mono ?_
      rintro e w28 ⟨rfl, b28⟩
      clear tA0 tA1 tA2 tF0 tF1 tF2 tW0 tW1 tW2 tX0 tX1 tX2 tY0 tY1 tY2 tG0 tG1 tG2 tH0 tH1 tH2 dW0 dW1 dG0 dG1 dH0 dH1
      replace tA := tA.keep b28
      replace tF := tF.keep b28
      replace tW := tW.keep b28
      replace tX := tX.keep b28
      replace tY := tY.keep b28
      replace tG := tG.keep b28
      replace tH := tH.keep b28
      replace dW := dW.keep b28
      replace dG := dG.keep b28
      replace dH := dH.keep b28
      replace hcal := hcal.below b28
      replace hM := hM.below b28
      replace hJ := hJ.below b28
      replace B : Below w.heap.size w w28 := B.trans (b28.mono B.size)
      have y28 := b28.size
      clear b28
      obtain ⟨tA0, tA1, tA2, _, _, _⟩ := id tA
      obtain ⟨tF0, tF1, tF2, _, _, _⟩ := id tF
      obtain ⟨tW0, tW1, tW2, _, _, _⟩ := id tW
      obtain ⟨tX0, tX1, tX2, _, _, _⟩ := id tX
      obtain ⟨tY0, tY1, tY2, _, _, _⟩ := id tY
      obtain ⟨tG0, tG1, tG2, _, _, _⟩ := id tG
      obtain ⟨tH0, tH1, tH2, _, _, _⟩ := id tH
      obtain ⟨dW0, dW1, _, _⟩ := id dW
      obtain ⟨dG0, dG1, _, _⟩ := id dG
      obtain ⟨dH0, dH1, _, _⟩ := id dH
      go_wp2_with fail
      go_ret
      exact ⟨rfl, B⟩

end Go.Proofs.YtpfhegengmlkmacGreatDoor
