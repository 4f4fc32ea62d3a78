/- Texts of this claim, one behind the other. -/
import Derived.Test.YtpfhegengmlkmaaGreatDoorZF46
namespace Go.Proofs.YtpfhegengmlkmaaGreatDoor
open Go.RowKit Go.BigFrame
set_option maxRecDepth 100000

theorem Tryz.infoSh2 : (Tryz.prog.info? 36).map (fun i => (i.zero, i.size, i.bytes)) = some (some (.agg #[.slice none 0 0, .slice none 0 0]), 2, 48) := by kernel_rfl

set_option maxHeartbeats 12800000 in
theorem specPlay_any (a0 am : Option Addr) (c0 cm : Nat) (ins : List ByteArray) (fs : List FeedV) (w : World) (hl : ins.length ≤ 1048576) (hr : RowS w a0 ins) (hs : ∀ j, (h : j < ins.length) → ins[j].size ≤ maxLen) (hff : FitF fs) (hrf : RowF w am fs) :
    Calls Tryz.prog 17 #[.slice a0 ins.length c0, .slice am fs.length cm] w fun e w' => PlyE false w w' ins fs e ∧ Below w.heap.size w w' := by
  have hfl := hff.1
  unfold maxLen at hfl
  obtain ⟨iz, hiz, hy0, hy1, hy2⟩ := info_parts Tryz.infoZ
  obtain ⟨ih, hih, hh0, hh1, hh2⟩ := info_parts Tryz.infoSh2
  go_enter Tryz.func17, Tryz.ntmps17
  go_wp2_with fail
  refine (specGN_any a0 c0 ins _ hl hr hs).mono ?_
  rintro e w1 ⟨hE, b1⟩
  have z1 := b1.size
  rcases hE.start with ⟨s0, e0, s1, e1, s2, e2, Lw, rfl, hN, hmap, hsg, hcap⟩ | ⟨rfl, hN⟩
  · have HN : Hid (IsN ins ins true) := hN
    clear hE hN
    have bA : Below w1.heap.size w1 (w1.alloc (.cells #[.slice s0 ins.length e0, .slice s1 Lw.length e1, .slice s2 0 e2] 30)) := (Below.refl _ _).alloc (Nat.le_refl _) _
    have tA := tri_new w1 (.slice s0 ins.length e0) (.slice s1 Lw.length e1) (.slice s2 0 e2) 30
    have zA : (w1.alloc (.cells #[.slice s0 ins.length e0, .slice s1 Lw.length e1, .slice s2 0 e2] 30)).heap.size = w1.heap.size + 1 := by simp
    have BA : Below w.heap.size w (w1.alloc (.cells #[.slice s0 ins.length e0, .slice s1 Lw.length e1, .slice s2 0 e2] 30)) := b1.trans (bA.mono z1)
    by_cases h60 : 60 < fs.length
    · go_wp2_with fail
      exact bodyPost_ret (v := .tuple #[.slice none 0 0, .slice none 0 0]) (by simp [results, Tryz.results17, go_sem]) rfl ⟨⟨[], [], none, none, 0, 0, rfl, ⟨ins, true, HN.out, .inr ⟨.inr h60, rfl, rfl⟩⟩, ⟨.inl rfl, .inl rfl⟩, fun _ p hp => by simp at hp, Nat.le_refl _, Nat.le_refl _⟩, BA⟩
    · have hW0 : PlyW (w1.heap.size + 1) (w1.alloc (.cells #[.slice s0 ins.length e0, .slice s1 Lw.length e1, .slice s2 0 e2] 30)) w1.heap.size w.heap.size w1.heap.size (newG ins) Lw s0 s1 s2 e0 e1 e2 (.slice none 0 0) (.slice none 0 0) [] [] :=
        { tG := tA, map := hmap, nice := newG_nice HN.out, sg := hsg.below bA, glt := by omega, gbox := .inr (Nat.le_refl _), bB := Nat.lt_succ_self _, BU := by omega, osh := World.ownsRow_nil _ _ _ _, oco := World.ownsRow_nil _ _ _ _, at_ := (fun p hp => by simp at hp), dis := List.Pairwise.nil, sfar := (fun p hp => by simp at hp), cfar := (fun p hp => by simp at hp), sgf := (fun k e => by cases e), cgf := (fun k e => by cases e) }
      have hB1 : w.heap.size ≤ w1.heap.size + 1 := by omega
      clear tA hsg bA zA hmap hcap
      go_wp2_with fail
      generalize w1.alloc (.cells #[.slice s0 ins.length e0, .slice s1 Lw.length e1, .slice s2 0 e2] 30) = WA at *
      generalize w1.heap.size = bG at *
      go_loopw [8, 9, 10] (fun vs vc i wr => ∃ (k glo ghi : Nat) (g : GatL) (Lw : List WinY) (a0 a1 a2 : Option Addr) (d0 d1 d2 : Nat) (L : List ShoY) (cs : List Int), k ≤ fs.length ∧ i = .int .i64 k ∧ PlyW (bG + 1) wr bG glo ghi g Lw a0 a1 a2 d0 d1 d2 vs vc L cs ∧ Hid (PlayTo (newG ins) (fs.take k) g (L.map (·.sv)) cs) ∧ Below w.heap.size w wr) (fun _ _ i _ => fs.length - (intOf i).toNat)
      case atStart => exact ⟨0, w.heap.size, bG, newG ins, Lw, s0, s1, s2, e0, e1, e2, [], [], Nat.zero_le _, rfl, hW0, PlayTo.nil, BA⟩
      case round =>
        clear hW0 BA
        obtain ⟨k, glo, ghi, g, Lw', p0, p1, p2, d0, d1, d2, L, cs, hk, rfl, hW, HP, hb⟩ := hrel
        by_cases hlt : k < fs.length
        · obtain ⟨bf, of, rfl, hbf, q0, q1, vq, q2, ⟨fa, fc, rfl, hfc, hrow⟩⟩ := (hrf.below hb) k hlt
          have k0 : (0 : Int) ≤ (k : Int) := by omega
          have k1 : (k : Int) < (fs.length : Int) := by omega
          have hfk := hff.2 k hlt
          have HCS : Hid (cs.length = k ∧ L.length ≤ k) := by
            unfold Hid
            have h := HP.out.nice (newG_nice HN.out)
            have e : (fs.take k).length = k := by rw [List.length_take]; omega
            have h3 := h.2.2.1
            have h4 := h.2.2.2
            rw [List.length_map] at h4
            omega
          go_wp2_with fail
          have hbl : bG < wr.heap.size := block_lt_of_cell hW.tG.c0
          have HSS : Hid (∀ u : World, Below wr.heap.size wr u → u.cell? ⟨bG, 0, none⟩ = some (.slice p0 g.ins.length d0) ∧ u.cell? ⟨bG, 1, none⟩ = some (.slice p1 Lw'.length d1) ∧ u.cell? ⟨bG, 2, none⟩ = some (.slice p2 g.shown.length d2) ∧ u.cell? ⟨bf, of + k * 3, none⟩ = some (.int .i64 fs[k].1) ∧ u.cell? ⟨bf, of + k * 3 + 1, none⟩ = some (.int .i64 fs[k].2.1) ∧ u.cell? ⟨bf, of + k * 3 + 2, none⟩ = some (.slice fa fs[k].2.2.length fc)) := fun u hu => ⟨cell_on hu hbl hW.tG.c0, cell_on hu hbl hW.tG.c1, cell_on hu hbl hW.tG.c2, cell_on hu hbf q0, cell_on hu hbf q1, cell_on hu hbf q2⟩
          obtain ⟨hLl, r0, r1, r2⟩ := hW.rows
          have hil : g.ins.length ≤ 1048576 := by have := hW.nice.ins; omega
          have HLL : Hid (Lw'.length = g.wins.length) := hLl
          clear hLl q0 q1 q2
          refine wp_region_inv (by kernel_rfl) (by kernel_rfl) (fun f a u => ∃ (R : ResG) (b10 b11 : Nat) (v11 v12 v13 v32 v33 v34 v35 v36 v37 v38 v39 v40 v41 : Value), a = { tmps := #[Value.slice a0 ins.length c0, Value.slice (some { block := bf, off := of }) fs.length cm, undef, undef, Value.slice none 0 0, Value.slice none 0 0, Value.pointer (some { block := bG, off := 0 }), Value.bool true, u8, u9, Value.int IntKind.i64 (k : Int), v11, v12, v13, Value.tuple #[Value.agg #[Value.slice s0 ins.length e0, Value.slice s1 Lw.length e1, Value.slice s2 0 e2], Value.bool true], Value.slice a0 ins.length c0, Value.tuple #[Value.agg #[Value.slice s0 ins.length e0, Value.slice s1 Lw.length e1, Value.slice s2 0 e2], Value.bool true], Value.agg #[Value.slice s0 ins.length e0, Value.slice s1 Lw.length e1, Value.slice s2 0 e2], Value.bool true, Value.bool true, Value.bool false, Value.bool false, Value.slice (some { block := bf, off := of }) fs.length cm, Value.int IntKind.i64 (fs.length : Int), Value.bool (decide (60 < (fs.length : Int))), Value.bool (decide (60 < (fs.length : Int))), Value.int IntKind.i64 (k : Int), Value.slice (some { block := bf, off := of }) fs.length cm, Value.int IntKind.i64 (fs.length : Int), Value.bool true, u30, u31, v32, v33, v34, v35, v36, v37, v38, v39, v40, v41, u42, u43, u44, u45, u46, u47, u48, u49, u50, u51, u52, u53, u54, undef, undef], defers := [] } ∧ Fy (CalS g fs[k].1 fs[k].2.1 fs[k].2.2) wr (.agg #[.slice p0 g.ins.length d0, .slice p1 Lw'.length d1, .slice p2 g.shown.length d2]) (.slice (some ⟨bf, of, none⟩) fs.length cm) (.int .i64 k) (.pointer (some ⟨bf, of + k * 3, none⟩)) (.agg #[.int .i64 fs[k].1, .int .i64 fs[k].2.1, .slice fa fs[k].2.2.length fc]) f R b10 b11 v11 v12 v13 v32 v33 v34 v35 v36 v37 v38 v39 v40 v41 u) ?start ?step ?fin
          case start =>
            refine ⟨⟨⟨[], [], []⟩, [], [], [], 0, none, none, none, none, none, 0, 0, 0, 0, 0, 0, 0, 0, 0⟩, 0, 0, _, _, _, _, _, _, _, _, _, _, _, _, _, rfl, ?_⟩
            exact { bel := (Below.refl _ _).drew, k0 := (fun h => by cases h), k1 := (fun h => by cases h), k2 := (fun h => by cases h), k3 := (fun h => by cases h), k4 := (fun h => by cases h), k5 := (fun h => by cases h), k6 := (fun h => by cases h), k7 := (fun h => by cases h), k8 := (fun h => by cases h), k9 := (fun h => by cases h), k10 := (fun h => by cases h), k11 := (fun h => by cases h), k14 := (fun h => by cases h), ne := (fun h => by cases h), c6 := (fun h => by cases h), c7 := (fun h => by cases h), c8 := (fun h => by cases h), c9 := (fun h => by cases h), c12 := (fun h => by cases h), c13 := (fun h => by cases h), c14 := (fun h => by cases h) }
          case step =>
            rintro f a u j ⟨R, b10, b11, v11, v12, v13, v32, v33, v34, v35, v36, v37, v38, v39, v40, v41, rfl, hF⟩ hj hfj hw
            obtain ⟨z0, z1, z2, z3, z4, z5⟩ := HSS.out _ hF.bel
            have hj' : j < 15 := hj
            have hC : ∀ R u u', CalS g fs[k].1 fs[k].2.1 fs[k].2.2 R u → Below u.heap.size u u' → CalS g fs[k].1 fs[k].2.1 fs[k].2.2 R u' := fun R u u' h hb => h.below hb
            rcases (by omega : j = 0 ∨ j = 1 ∨ j = 2 ∨ j = 3 ∨ j = 4 ∨ j = 5 ∨ j = 6 ∨ j = 7 ∨ j = 8 ∨ j = 9 ∨ j = 10 ∨ j = 11 ∨ j = 12 ∨ j = 13 ∨ j = 14) with rfl | rfl | rfl | rfl | rfl | rfl | rfl | rfl | rfl | rfl | rfl | rfl | rfl | rfl | rfl
            · refine wpOp_wanted rfl (by kernel_rfl) ?_
              go_simp
              exact ⟨R, b10, b11, _, _, _, _, _, _, _, _, _, _, _, _, _, ⟨rfl, rfl, rfl, rfl, rfl, rfl, rfl, rfl, rfl, rfl, rfl, rfl, rfl⟩, { hF with k0 := fun _ => rfl }⟩
            · refine wpOp_wanted rfl (by kernel_rfl) ?_
              go_simp
              exact ⟨R, b10, b11, _, _, _, _, _, _, _, _, _, _, _, _, _, ⟨rfl, rfl, rfl, rfl, rfl, rfl, rfl, rfl, rfl, rfl, rfl, rfl, rfl⟩, { hF with k1 := fun _ => rfl }⟩
            · refine wpOp_wanted rfl (by kernel_rfl) ?_
              go_simp
              exact ⟨R, b10, b11, _, _, _, _, _, _, _, _, _, _, _, _, _, ⟨rfl, rfl, rfl, rfl, rfl, rfl, rfl, rfl, rfl, rfl, rfl, rfl, rfl⟩, { hF with k2 := fun _ => rfl }⟩
            · have h1 : f 1 = true := hw 1 (of_decide_eq_true (by kernel_rfl))
              have h2 : f 2 = true := hw 2 (of_decide_eq_true (by kernel_rfl))
              obtain rfl := hF.k1 h1
              obtain rfl := hF.k2 h2
              refine wpOp_wanted rfl (by kernel_rfl) ?_
              go_simp
              exact ⟨R, b10, b11, _, _, _, _, _, _, _, _, _, _, _, _, _, ⟨rfl, rfl, rfl, rfl, rfl, rfl, rfl, rfl, rfl, rfl, rfl, rfl, rfl⟩, { hF with k3 := fun _ => rfl }⟩
            · have h3 : f 3 = true := hw 3 (of_decide_eq_true (by kernel_rfl))
              obtain rfl := hF.k3 h3
              refine wpOp_wanted rfl (by kernel_rfl) ?_
              go_simp
              exact ⟨R, b10, b11, _, _, _, _, _, _, _, _, _, _, _, _, _, ⟨rfl, rfl, rfl, rfl, rfl, rfl, rfl, rfl, rfl, rfl, rfl, rfl, rfl⟩, { hF with k4 := fun _ => rfl }⟩
            · have h0 : f 0 = true := hw 0 (of_decide_eq_true (by kernel_rfl))
              have h4 : f 4 = true := hw 4 (of_decide_eq_true (by kernel_rfl))
              obtain rfl := hF.k0 h0
              obtain rfl := hF.k4 h4
              have hcall := specGP_any p0 p1 p2 fa d0 d1 d2 fc g fs[k].1 fs[k].2.1 fs[k].2.2 u hW.nice.fit hil (r0.below hF.bel) (r1.below hF.bel) (r2.below hF.bel) hfk (hrow.below hF.bel)
              rw [← HLL.out] at hcall
              refine wpOp_wanted rfl (by kernel_rfl) ?_
              go_simp
              refine Calls.mono hcall ?_
              rintro e n ⟨hE, bx⟩
              obtain ⟨R', rfl, e1, e2, hcal⟩ := hE.cal bx.size
              have hF' := hF.below hC bx
              have no6 : f 6 = true → False := fun h => by have := hF.c6 h; rw [hfj] at this; cases this
              have no7 : f 7 = true → False := fun h => by have := hF.c7 h; rw [hfj] at this; cases this
              have no8 : f 8 = true → False := fun h => by have := hF.c8 h; rw [hfj] at this; cases this
              have no9 : f 9 = true → False := fun h => by have := hF.c9 h; rw [hfj] at this; cases this
              have no12 : f 12 = true → False := fun h => by have := (hF.c12 h).1; rw [hfj] at this; cases this
              have no13 : f 13 = true → False := fun h => by have := (hF.c13 h).1; rw [hfj] at this; cases this
              have no14 : f 14 = true → False := fun h => by have := hF.c14 h; rw [hfj] at this; cases this
              have zW := hF.bel.size
              exact ⟨R', b10, b11, _, _, _, _, _, _, _, _, _, _, _, _, _, ⟨rfl, rfl, rfl, rfl, rfl, rfl, rfl, rfl, rfl, rfl, rfl, rfl, rfl⟩, { bel := hF'.bel, k0 := hF'.k0, k1 := hF'.k1, k2 := hF'.k2, k3 := hF'.k3, k4 := hF'.k4, k5 := fun _ => ⟨rfl, hcal, by rw [e1]; exact zW⟩, k6 := fun e => (no6 e).elim, k7 := fun e => (no7 e).elim, k8 := fun e => (no8 e).elim, k9 := fun e => (no9 e).elim, k10 := fun e => let ⟨q0, q1, q2, q3, q4, q5⟩ := hF'.k10 e; ⟨q0, q1, q2, fun _ => .inl (by rw [e1]; exact (hF.k10 e).2.2.1), q4, fun e' => (no12 e').elim⟩, k11 := fun e => let ⟨q0, q1, q2, q3, q4, q5⟩ := hF'.k11 e; ⟨q0, q1, q2, fun _ => .inl (by rw [e1]; exact (hF.k11 e).2.2.1), q4, fun e' => (no13 e').elim⟩, k14 := fun e => (no14 e).elim, ne := hF'.ne, c6 := fun _ => rfl, c7 := fun _ => rfl, c8 := fun _ => rfl, c9 := fun _ => rfl, c12 := fun e => (no12 e).elim, c13 := fun e => (no13 e).elim, c14 := fun e => (no14 e).elim }⟩
            · have h5 : f 5 = true := hw 5 (of_decide_eq_true (by kernel_rfl))
              obtain ⟨rfl, _, _⟩ := hF.k5 h5
              refine wpOp_wanted rfl (by kernel_rfl) ?_
              go_simp
              exact ⟨R, b10, b11, _, _, _, _, _, _, _, _, _, _, _, _, _, ⟨rfl, rfl, rfl, rfl, rfl, rfl, rfl, rfl, rfl, rfl, rfl, rfl, rfl⟩, { hF with k6 := fun _ => rfl, c6 := fun _ => h5 }⟩
            · have h6 : f 6 = true := hw 6 (of_decide_eq_true (by kernel_rfl))
              have h5 := hF.c6 h6
              obtain rfl := hF.k6 h6
              refine wpOp_wanted rfl (by kernel_rfl) ?_
              go_simp
              exact ⟨R, b10, b11, _, _, _, _, _, _, _, _, _, _, _, _, _, ⟨rfl, rfl, rfl, rfl, rfl, rfl, rfl, rfl, rfl, rfl, rfl, rfl, rfl⟩, { hF with k7 := fun _ => rfl, c7 := fun _ => h5 }⟩
            · have h6 : f 6 = true := hw 6 (of_decide_eq_true (by kernel_rfl))
              have h5 := hF.c6 h6
              obtain rfl := hF.k6 h6
              refine wpOp_wanted rfl (by kernel_rfl) ?_
              go_simp
              exact ⟨R, b10, b11, _, _, _, _, _, _, _, _, _, _, _, _, _, ⟨rfl, rfl, rfl, rfl, rfl, rfl, rfl, rfl, rfl, rfl, rfl, rfl, rfl⟩, { hF with k8 := fun _ => rfl, c8 := fun _ => h5 }⟩
            · have h6 : f 6 = true := hw 6 (of_decide_eq_true (by kernel_rfl))
              have h5 := hF.c6 h6
              obtain rfl := hF.k6 h6
              refine wpOp_wanted rfl (by kernel_rfl) ?_
              go_simp
              exact ⟨R, b10, b11, _, _, _, _, _, _, _, _, _, _, _, _, _, ⟨rfl, rfl, rfl, rfl, rfl, rfl, rfl, rfl, rfl, rfl, rfl, rfl, rfl⟩, { hF with k9 := fun _ => rfl, c9 := fun _ => h5 }⟩
            · refine wpOp_wanted rfl (by kernel_rfl) ?_
              go_simp
              have bx : Below u.heap.size u (u.alloc (.cells #[.slice none 0 0, .slice none 0 0, .slice none 0 0] 30)) := (Below.refl _ _).alloc (Nat.le_refl _) _
              have hF' := hF.below hC bx
              have no12 : f 12 = true → False := fun h => by have := (hF.c12 h).2; rw [hfj] at this; cases this
              have hnew := tri_new u (.slice none 0 0) (.slice none 0 0) (.slice none 0 0) 30
              have zW := hF.bel.size
              exact ⟨R, u.heap.size, b11, _, _, _, _, _, _, _, _, _, _, _, _, _, ⟨rfl, rfl, rfl, rfl, rfl, rfl, rfl, rfl, rfl, rfl, rfl, rfl, rfl⟩, { hF' with k10 := fun _ => ⟨rfl, zW, by simp, fun e => .inr (hF.k5 e).2.1.o4, fun _ => hnew, fun e => (no12 e).elim⟩, ne := fun _ e => Nat.ne_of_gt (hF.k11 e).2.2.1, c12 := fun e => (no12 e).elim }⟩
            · refine wpOp_wanted rfl (by kernel_rfl) ?_
              go_simp
              have bx : Below u.heap.size u (u.alloc (.cells #[.slice none 0 0, .slice none 0 0] 36)) := (Below.refl _ _).alloc (Nat.le_refl _) _
              have hF' := hF.below hC bx
              have no13 : f 13 = true → False := fun h => by have := (hF.c13 h).2; rw [hfj] at this; cases this
              have hnew := duo_new u (.slice none 0 0) (.slice none 0 0) 36
              have zW := hF.bel.size
              exact ⟨R, b10, u.heap.size, _, _, _, _, _, _, _, _, _, _, _, _, _, ⟨rfl, rfl, rfl, rfl, rfl, rfl, rfl, rfl, rfl, rfl, rfl, rfl, rfl⟩, { hF' with k11 := fun _ => ⟨rfl, zW, by simp, fun e => .inr (hF.k5 e).2.1.o4, fun _ => hnew, fun e => (no13 e).elim⟩, ne := fun e _ => Nat.ne_of_lt (hF.k10 e).2.2.1, c13 := fun e => (no13 e).elim }⟩
            · have h10 : f 10 = true := hw 10 (of_decide_eq_true (by kernel_rfl))
              have h7 : f 7 = true := hw 7 (of_decide_eq_true (by kernel_rfl))
              have h11 : f 11 = true := hw 11 (of_decide_eq_true (by kernel_rfl))
              have h5 := hF.c7 h7
              obtain rfl := hF.k7 h7
              obtain ⟨rfl, q1, q2, q3, q4, _⟩ := hF.k10 h10
              have tt := q4 hfj
              obtain ⟨i0, i1, i2, o0, o1, o2⟩ := id tt
              refine wpOp_wanted rfl (by kernel_rfl) ?_
              go_simp
              have sx : Span b10 (b10 + 1) u (((u.setCell ⟨b10, 0, none⟩ (.slice R.s0 R.g.ins.length R.d0)).setCell ⟨b10, 1, none⟩ (.slice R.s1 R.L.length R.d1)).setCell ⟨b10, 2, none⟩ (.slice R.s2 R.g.shown.length R.d2)) := (((Span.refl _ _ _).setCell (Nat.le_refl _) (Nat.lt_succ_self _) _ _).setCell (Nat.le_refl _) (Nat.lt_succ_self _) _ _).setCell (Nat.le_refl _) (Nat.lt_succ_self _) _ _
              have tn := ((tt.set0 (.slice R.s0 R.g.ins.length R.d0)).set1 (.slice R.s1 R.L.length R.d1)).set2c (.slice R.s2 R.g.shown.length R.d2)
              have zx : (((u.setCell ⟨b10, 0, none⟩ (.slice R.s0 R.g.ins.length R.d0)).setCell ⟨b10, 1, none⟩ (.slice R.s1 R.L.length R.d1)).setCell ⟨b10, 2, none⟩ (.slice R.s2 R.g.shown.length R.d2)).heap.size = u.heap.size := by simp
              have far := q3 h5
              have ne := hF.ne h10 h11
              have hb' := hF.bel.trans (sx.below q1 hF.bel.size)
              generalize (((u.setCell ⟨b10, 0, none⟩ (.slice R.s0 R.g.ins.length R.d0)).setCell ⟨b10, 1, none⟩ (.slice R.s1 R.L.length R.d1)).setCell ⟨b10, 2, none⟩ (.slice R.s2 R.g.shown.length R.d2)) = n at *
              exact ⟨R, b10, b11, _, _, _, _, _, _, _, _, _, _, _, _, _, ⟨rfl, rfl, rfl, rfl, rfl, rfl, rfl, rfl, rfl, rfl, rfl, rfl, rfl⟩, { bel := hb', k0 := hF.k0, k1 := hF.k1, k2 := hF.k2, k3 := hF.k3, k4 := hF.k4, k5 := fun e => let ⟨r0, r1, r2⟩ := hF.k5 e; ⟨r0, r1.span sx (by omega), r2⟩, k6 := hF.k6, k7 := hF.k7, k8 := hF.k8, k9 := hF.k9, k10 := fun _ => ⟨rfl, q1, by omega, fun _ => far, (fun e => by cases e), fun _ => tn⟩, k11 := fun e => let ⟨r0, r1, r2, r3, r4, r5⟩ := hF.k11 e; ⟨r0, r1, by omega, r3, fun e' => (r4 e').span sx (by omega), fun e' => (r5 e').span sx (by omega)⟩, k14 := hF.k14, ne := hF.ne, c6 := hF.c6, c7 := hF.c7, c8 := hF.c8, c9 := hF.c9, c12 := fun _ => ⟨h5, h10⟩, c13 := hF.c13, c14 := hF.c14 }⟩
            · have h11 : f 11 = true := hw 11 (of_decide_eq_true (by kernel_rfl))
              have h8 : f 8 = true := hw 8 (of_decide_eq_true (by kernel_rfl))
              have h10 : f 10 = true := hw 10 (of_decide_eq_true (by kernel_rfl))
              have h5 := hF.c8 h8
              obtain rfl := hF.k8 h8
              obtain ⟨rfl, q1, q2, q3, q4, _⟩ := hF.k11 h11
              have tt := q4 hfj
              obtain ⟨i0, i1, o0, o1⟩ := id tt
              refine wpOp_wanted rfl (by kernel_rfl) ?_
              go_simp
              have sx : Span b11 (b11 + 1) u ((u.setCell ⟨b11, 0, none⟩ (.slice R.s3 R.sv.length R.d3)).setCell ⟨b11, 1, none⟩ (.slice R.s4 R.ss.length R.d4)) := ((Span.refl _ _ _).setCell (Nat.le_refl _) (Nat.lt_succ_self _) _ _).setCell (Nat.le_refl _) (Nat.lt_succ_self _) _ _
              have tn := (tt.set0 (.slice R.s3 R.sv.length R.d3)).set1 (.slice R.s4 R.ss.length R.d4)
              have zx : ((u.setCell ⟨b11, 0, none⟩ (.slice R.s3 R.sv.length R.d3)).setCell ⟨b11, 1, none⟩ (.slice R.s4 R.ss.length R.d4)).heap.size = u.heap.size := by simp
              have far := q3 h5
              have ne := hF.ne h10 h11
              have hb' := hF.bel.trans (sx.below q1 hF.bel.size)
              generalize ((u.setCell ⟨b11, 0, none⟩ (.slice R.s3 R.sv.length R.d3)).setCell ⟨b11, 1, none⟩ (.slice R.s4 R.ss.length R.d4)) = n at *
              exact ⟨R, b10, b11, _, _, _, _, _, _, _, _, _, _, _, _, _, ⟨rfl, rfl, rfl, rfl, rfl, rfl, rfl, rfl, rfl, rfl, rfl, rfl, rfl⟩, { bel := hb', k0 := hF.k0, k1 := hF.k1, k2 := hF.k2, k3 := hF.k3, k4 := hF.k4, k5 := fun e => let ⟨r0, r1, r2⟩ := hF.k5 e; ⟨r0, r1.span sx (by omega), r2⟩, k6 := hF.k6, k7 := hF.k7, k8 := hF.k8, k9 := hF.k9, k11 := fun _ => ⟨rfl, q1, by omega, fun _ => far, (fun e => by cases e), fun _ => tn⟩, k10 := fun e => let ⟨r0, r1, r2, r3, r4, r5⟩ := hF.k10 e; ⟨r0, r1, by omega, r3, fun e' => (r4 e').span sx (by omega), fun e' => (r5 e').span sx (by omega)⟩, k14 := hF.k14, ne := hF.ne, c6 := hF.c6, c7 := hF.c7, c8 := hF.c8, c9 := hF.c9, c12 := hF.c12, c13 := fun _ => ⟨h5, h11⟩, c14 := hF.c14 }⟩
            · have h9 : f 9 = true := hw 9 (of_decide_eq_true (by kernel_rfl))
              have h5 := hF.c9 h9
              obtain rfl := hF.k9 h9
              refine wpOp_wanted rfl (by kernel_rfl) ?_
              go_simp
              exact ⟨R, b10, b11, _, _, _, _, _, _, _, _, _, _, _, _, _, ⟨rfl, rfl, rfl, rfl, rfl, rfl, rfl, rfl, rfl, rfl, rfl, rfl, rfl⟩, { hF with k14 := fun _ => rfl, c14 := fun _ => h5 }⟩
          case fin =>
            rintro f a u ⟨R, b10, b11, v11, v12, v13, v32, v33, v34, v35, v36, v37, v38, v39, v40, v41, rfl, hF⟩ hall
            obtain ⟨rfl, hI, wtl⟩ := hF.k5 (hall 5 (of_decide_eq_true (by kernel_rfl)))
            obtain ⟨rfl, w10, l10, far10, _, tT⟩ := hF.k10 (hall 10 (of_decide_eq_true (by kernel_rfl)))
            obtain ⟨rfl, w11, l11, far11, _, dS⟩ := hF.k11 (hall 11 (of_decide_eq_true (by kernel_rfl)))
            obtain rfl := hF.k14 (hall 14 (of_decide_eq_true (by kernel_rfl)))
            replace tT := tT (hall 12 (of_decide_eq_true (by kernel_rfl)))
            replace dS := dS (hall 13 (of_decide_eq_true (by kernel_rfl)))
            replace far10 := far10 (hall 5 (of_decide_eq_true (by kernel_rfl)))
            replace far11 := far11 (hall 5 (of_decide_eq_true (by kernel_rfl)))
            have hWX := hW.keep hF.bel
            have BX := hb.trans (hF.bel.mono hb.size)
            have zX := hF.bel.size
            have HPUT : Hid (PutG g fs[k].1 fs[k].2.1 fs[k].2.2 R.g R.sv R.ss R.code) := hI.put
            have hcb : ∀ j, u9.ownBlock = some j → j < wr.heap.size := fun j e => ((show World.ownsRow _ _ _ _ _ _ _ from hW.oco).lt j e).2
            have hsb : ∀ j, u8.ownBlock = some j → j < wr.heap.size := fun j e => (hW.osh.lt j e).2
            have hLt : ∀ p ∈ L, p.hi ≤ wr.heap.size := fun p hp => (hW.at_ p hp).1.o3
            have hBt : bG + 1 ≤ wr.heap.size := hW.BU
            clear hF hall HSS hW r0 r1 r2 hrow
            go_wp2_with (at_builtin; refine hid_hold ?_)
            have bN : Below u.heap.size u (u.alloc (.cells #[.int .i64 R.code] 3)) := (Below.refl _ _).alloc (Nat.le_refl _) _
            have hWN := hWX.keep bN
            have hIN := hI.below bN
            have tTN := tT.keep bN
            have dSN := dS.keep bN
            have BN := BX.trans (bN.mono BX.size)
            have zN : (u.alloc (.cells #[.int .i64 R.code] 3)).heap.size = u.heap.size + 1 := by simp
            have hnew := one_new u (.int .i64 R.code) 3
            clear hWX hI tT dS BX bN
            unfold Hid
            generalize u.alloc (.cells #[.int .i64 R.code] 3) = WN at *
            refine wpList_append_lies _ rfl _ _ 34 rfl (bG + 1) 3 iz (.int .i64 0) 1 8 Tryz.underlying34 hiz hy0 hy1 hy2 rfl (by decide) _ _ _ rfl hWN.oco ⟨u.heap.size, 0, none⟩ 1 1 [.int .i64 R.code] rfl rfl hnew (by simp [Value.oneCell']) (by decide) (by have := HCS.out; unfold maxLen; omega) (by have := HCS.out; omega) hWN.BU _ rfl ?_
            intro g5 cap5 w5 hown5 hgr5 hloc5 _
            have hW5 := hWN.code hown5 hgr5 hloc5
            have hth : R.th ≤ WN.heap.size := hIN.o4
            have hI5 := hIN.grown hgr5 (fun j e => .inl (by have := hcb j e; omega))
            have tT5 := tTN.grownO hgr5 (fun j e => by have := hcb j e; omega)
            have dS5 := dSN.grown hgr5 (fun j e => by have := hcb j e; omega)
            have B5 : Below w.heap.size w w5 := grown_low BN BN.size hgr5 (fun j e => by have := own_from (show World.ownsRow _ _ _ _ _ _ _ from hWN.oco) j e; omega)
            have z5 := hgr5.size
            have hc5 : ∀ j, (Value.slice (some ⟨g5, 0, none⟩) (cs.length + 1) cap5).ownBlock = some j → j < R.tl ∨ R.th ≤ j := fun j e => by
              obtain rfl : g5 = j := by simpa [Value.ownBlock] using e
              rcases hloc5 with e | e
              · exact .inl (by have := hcb _ e; omega)
              · exact .inr (by omega)
            clear hWN hIN tTN dSN BN hgr5 hnew hown5 hloc5
            have hnice := HPUT.out.nice.1
            have htake : fs.take (k + 1) = fs.take k ++ [fs[k]] := List.take_succ_eq_append_getElem hlt
            have hsnoc := PlayTo.snoc (f := fs[k]) HP.out HPUT.out
            rw [← htake] at hsnoc
            have o1 := hI5.o1
            have o4 := hI5.o4
            by_cases h2 : R.code = 2
            · rw [if_pos h2, if_neg (by omega)] at hsnoc
              have HA : Hid (PlayTo (newG ins) (fs.take (k + 1)) g (L.map (·.sv)) (cs ++ [R.code])) := hsnoc
              clear hsnoc htake tT5 dS5 hI5 o1 o4
              go_wp2_with fail
              exact ⟨⟨k + 1, glo, ghi, g, Lw', p0, p1, p2, d0, d1, d2, L, cs ++ [R.code], by omega, by go_num, hW5, HA, B5⟩, by simp [intOf]; omega⟩
            · have hW6 := hW5.put (d0' := R.d0) (d1' := R.d1) (d2' := R.d2) hI5.map hnice hI5.sg (by omega) (.inl (by omega)) (fun j e => .inl (by have := hsb j e; omega)) hc5
              have sp6 : Span bG (bG + 1) w5 (((w5.setCell ⟨bG, 0, none⟩ (.slice R.s0 R.g.ins.length R.d0)).setCell ⟨bG, 1, none⟩ (.slice R.s1 R.L.length R.d1)).setCell ⟨bG, 2, none⟩ (.slice R.s2 R.g.shown.length R.d2)) := (((Span.refl _ _ _).setCell (Nat.le_refl _) (Nat.lt_succ_self _) _ _).setCell (Nat.le_refl _) (Nat.lt_succ_self _) _ _).setCell (Nat.le_refl _) (Nat.lt_succ_self _) _ _
              have hI6 := hI5.span sp6 (by omega)
              have dS6 := dS5.span sp6 (by omega)
              have z6 : (((w5.setCell ⟨bG, 0, none⟩ (.slice R.s0 R.g.ins.length R.d0)).setCell ⟨bG, 1, none⟩ (.slice R.s1 R.L.length R.d1)).setCell ⟨bG, 2, none⟩ (.slice R.s2 R.g.shown.length R.d2)).heap.size = w5.heap.size := by simp
              have B6 := B5.trans (sp6.below (show w.heap.size ≤ bG by omega) B5.size)
              obtain ⟨y0, y1, y2, y3, y4, y5⟩ := id hW5.tG
              obtain ⟨t0, t1, t2, _, _, _⟩ := id tT5
              obtain ⟨x0, x1, _, _⟩ := id dS6
              by_cases h1 : R.code = 1
              · rw [if_neg h2, if_pos h1] at hsnoc
                have HB : Hid (PlayTo (newG ins) (fs.take (k + 1)) R.g (L.map (·.sv) ++ [(R.sv, R.ss)]) (cs ++ [R.code])) := hsnoc
                clear hsnoc htake hI5 dS5 hW5 B5
                go_wp2_with (at_builtin; refine hid_hold ?_)
                generalize ((w5.setCell ⟨bG, 0, none⟩ (.slice R.s0 R.g.ins.length R.d0)).setCell ⟨bG, 1, none⟩ (.slice R.s1 R.L.length R.d1)).setCell ⟨bG, 2, none⟩ (.slice R.s2 R.g.shown.length R.d2) = W6 at *
                have bM : Below W6.heap.size W6 (W6.alloc (.cells #[.slice R.s3 R.sv.length R.d3, .slice R.s4 R.ss.length R.d4] 36)) := (Below.refl _ _).alloc (Nat.le_refl _) _
                have hWM := hW6.keep bM
                have hIM := hI6.below bM
                have BM := B6.trans (bM.mono B6.size)
                have zM : (W6.alloc (.cells #[.slice R.s3 R.sv.length R.d3, .slice R.s4 R.ss.length R.d4] 36)).heap.size = W6.heap.size + 1 := by simp
                have hnew := two_new W6 (.slice R.s3 R.sv.length R.d3) (.slice R.s4 R.ss.length R.d4) 36
                rw [z6] at hnew
                clear hW6 hI6 dS6 B6 bM x0 x1 y0 y1 y2 y3 y4 y5 t0 t1 t2 tT5 sp6
                unfold Hid
                generalize W6.alloc (.cells #[.slice R.s3 R.sv.length R.d3, .slice R.s4 R.ss.length R.d4] 36) = WM at *
                refine wpList_append_lies _ rfl _ _ 48 rfl (bG + 1) 36 ih (.agg #[.slice none 0 0, .slice none 0 0]) 2 48 Tryz.underlying48 hih hh0 hh1 hh2 rfl (by decide) _ _ _ rfl hWM.osh ⟨w5.heap.size, 0, none⟩ 1 1 [.slice R.s3 R.sv.length R.d3, .slice R.s4 R.ss.length R.d4] rfl rfl hnew (by simp [Value.oneCell']) (by decide) (by have := HCS.out; unfold maxLen; omega) (by have := HCS.out; omega) hWM.BU _ rfl ?_
                intro g8 cap8 w8 hown8 hgr8 hloc8 _
                have hW8 := hWM.show_ (p := ⟨R.sv, R.ss, R.s3, R.d3, R.s4, R.d4, R.tl, R.th, R.tl, R.th⟩) ⟨hIM.sz, hIM.ss, o1, Nat.le_refl _, hIM.o4, Nat.le_refl _, o1⟩ (show bG + 1 ≤ R.tl by omega) (fun q hq => show q.hi ≤ R.tl by have := hLt q hq; omega) (fun j e => .inl (show j < R.tl by have := hsb j e; omega)) hc5 hown8 hgr8 hloc8
                have B8 : Below w.heap.size w w8 := grown_low BM BM.size hgr8 (fun j e => by have := own_from hWM.osh j e; omega)
                have HB8 : Hid (PlayTo (newG ins) (fs.take (k + 1)) R.g ((L ++ [(⟨R.sv, R.ss, R.s3, R.d3, R.s4, R.d4, R.tl, R.th, R.tl, R.th⟩ : ShoY)]).map (·.sv)) (cs ++ [R.code])) := by
                  unfold Hid
                  rw [List.map_append]
                  exact HB.out
                clear hWM hIM BM hgr8 hnew hown8 hloc8
                go_wp2_with fail
                exact ⟨⟨k + 1, R.tl, R.th, R.g, R.L, R.s0, R.s1, R.s2, R.d0, R.d1, R.d2, _, cs ++ [R.code], by omega, by go_num, hW8, HB8, B8⟩, by simp [intOf]; omega⟩
              · rw [if_neg h2, if_neg h1] at hsnoc
                have HB : Hid (PlayTo (newG ins) (fs.take (k + 1)) R.g (L.map (·.sv)) (cs ++ [R.code])) := hsnoc
                clear hsnoc htake hI5 dS5 hW5 B5
                go_wp2_with fail
                exact ⟨⟨k + 1, R.tl, R.th, R.g, R.L, R.s0, R.s1, R.s2, R.d0, R.d1, R.d2, L, cs ++ [R.code], by omega, by go_num, hW6, HB, B6⟩, by simp [intOf]; omega⟩
        · obtain rfl : k = fs.length := by omega
          obtain ⟨sa, sc, ca, cc, rfl, rfl, hA, hcA⟩ := hW.ans (lo := w.heap.size) hB1
          have HCA : Hid (L.length ≤ sc ∧ cs.length ≤ cc) := hcA
          clear hcA
          have HF : Hid (PlayTo (newG ins) fs g (L.map (·.sv)) cs) := by
            have h := HP.out
            rw [List.take_of_length_le (Nat.le_refl _)] at h
            exact h
          go_wp2_with fail
          exact bodyPost_ret (v := .tuple #[.slice sa L.length sc, .slice ca cs.length cc]) (by simp [results, Tryz.results17, go_sem]) rfl ⟨⟨L, cs, sa, ca, sc, cc, rfl, ⟨ins, true, HN.out, .inl ⟨rfl, by omega, g, HF.out⟩⟩, hA, (fun e => by cases e), HCA.out⟩, hb⟩
  · clear hE
    have bA : Below w1.heap.size w1 (w1.alloc (.cells #[.slice none 0 0, .slice none 0 0, .slice none 0 0] 30)) := (Below.refl _ _).alloc (Nat.le_refl _) _
    go_wp2_with fail
    exact bodyPost_ret (v := .tuple #[.slice none 0 0, .slice none 0 0]) (by simp [results, Tryz.results17, go_sem]) rfl ⟨⟨[], [], none, none, 0, 0, rfl, ⟨[], false, hN, .inr ⟨.inl rfl, rfl, rfl⟩⟩, ⟨.inl rfl, .inl rfl⟩, fun _ p hp => by simp at hp, Nat.le_refl _, Nat.le_refl _⟩, b1.trans (bA.mono z1)⟩

end Go.Proofs.YtpfhegengmlkmaaGreatDoor
