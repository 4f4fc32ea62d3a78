/- Texts of this claim, one behind the other. -/
import Derived.Test.YtpfhegengmlkmaaGreatDoorZW48
namespace Go.Proofs.YtpfhegengmlkmaaGreatDoor
open Go.RowKit Go.BigFrame
set_option maxRecDepth 100000

set_option maxHeartbeats 12800000 in
theorem l6Gather_any (rB n c p : Nat) (ab : Option Addr) (w : World) (hr : Rd w rB ab n c p) (hp : p ≤ 40000) :
    Calls Tryz.prog 51 #[.pointer (some ⟨rB, 0, none⟩)] w fun e w' => GaE w.heap.size w' e ∧ But rB w w' := by
  have hRl := hr.lt
  have bA0 : Below w.heap.size w (w.alloc (.cells #[.slice none 0 0, .slice none 0 0, .slice none 0 0] 30)) := (Below.refl _ _).alloc (Nat.le_refl _) _
  have tO := tri_new w (.slice none 0 0) (.slice none 0 0) (.slice none 0 0) 30
  have hr0 := hr.below bA0
  have z0 : (w.alloc (.cells #[.slice none 0 0, .slice none 0 0, .slice none 0 0] 30)).heap.size = w.heap.size + 1 := by simp
  clear hr
  obtain ⟨i0, hi, hz0, hz1, hz2⟩ := info_parts Tryz.infoS
  go_enter Tryz.func51, Tryz.ntmps51
  go_wp2_with fail
  generalize w.alloc (.cells #[.slice none 0 0, .slice none 0 0, .slice none 0 0] 30) = W0 at *
  refine (l6Which_any rB n c p ab W0 hr0 (by omega)).mono ?_
  rintro e w2 ⟨⟨wv, wl, p2, rfl, hw2, hwl0, hwl1, hr2, hp2⟩, hb2⟩
  obtain ⟨gw, cw, rfl, hgw⟩ := hw2.some (by omega)
  have z2 := hb2.size
  generalize hnw : wl.length = nw at *
  have hwh2 : ∀ j, j < nw → ∃ x : Int, w2.cell? ⟨gw, j, none⟩ = some (.int .i64 x) := fun j hj => ⟨_, hw2.cells hnw.symm (by omega)⟩
  replace tO := tO.span (hb2.span (Nat.le_refl _) (Nat.lt_succ_self _)) (by omega)
  have B2 : But rB w w2 := (But.of_below bA0).trans hb2
  clear hr0 hw2 hnw bA0 hb2
  go_wp2_with fail
  refine (l6Ins_any nw w2 (by omega)).mono ?_
  rintro e w3 ⟨⟨vi, li, rfl, hg3, hll, hs8⟩, b3⟩
  subst hll
  obtain ⟨ia, ic, rfl, hic1, hic2, hri⟩ := hg3.rows
  have hs8' : ∀ j, (h : j < li.length) → li[j].size ≤ maxLen := fun j hj => by have := hs8 _ (List.getElem_mem hj); unfold maxLen; omega
  have hr3 := hr2.below b3
  have hwh3 : ∀ j, j < li.length → ∃ x : Int, w3.cell? ⟨gw, j, none⟩ = some (.int .i64 x) := fun j hj => by
    obtain ⟨x, e⟩ := hwh2 j hj
    exact ⟨x, cell_on b3 (block_lt_of_cell e) e⟩
  have z3 := b3.size
  replace tO := tO.keep b3
  have B3 : But rB w w3 := B2.trans (But.of_below b3)
  clear b3 hr2 hwh2 B2 hg3 hs8
  go_wp2_with fail
  refine (specGN_any ia ic li w3 (by omega) hri hs8').mono ?_
  rintro e w4 ⟨hE, b4⟩
  have z4 := b4.size
  obtain ⟨gI, aI0, e0, aI1, e1, aI2, e2, LI, bb, rfl, hnice, hmap, hsg, hcap, hroom⟩ := hE.begin
  have hr4 := hr3.below b4
  have hwh4 : ∀ j, j < li.length → ∃ x : Int, w4.cell? ⟨gw, j, none⟩ = some (.int .i64 x) := fun j hj => by
    obtain ⟨x, e⟩ := hwh3 j hj
    exact ⟨x, cell_on b4 (block_lt_of_cell e) e⟩
  replace tO := tO.keep b4
  have B4 : But rB w w4 := B3.trans (But.of_below b4)
  clear b4 hr3 hwh3 B3 hE hri hic1 hic2 hs8'
  have bA : Below w4.heap.size w4 (w4.alloc (.cells #[.slice aI0 gI.ins.length e0, .slice aI1 LI.length e1, .slice aI2 gI.shown.length e2] 30)) := (Below.refl _ _).alloc (Nat.le_refl _) _
  have tA := tri_new w4 (.slice aI0 gI.ins.length e0) (.slice aI1 LI.length e1) (.slice aI2 gI.shown.length e2) 30
  have zA : (w4.alloc (.cells #[.slice aI0 gI.ins.length e0, .slice aI1 LI.length e1, .slice aI2 gI.shown.length e2] 30)).heap.size = w4.heap.size + 1 := by simp
  have hWG : PlyW (w4.heap.size + 1) (w4.alloc (.cells #[.slice aI0 gI.ins.length e0, .slice aI1 LI.length e1, .slice aI2 gI.shown.length e2] 30)) w4.heap.size w3.heap.size w4.heap.size gI LI aI0 aI1 aI2 e0 e1 e2 (.slice none 0 0) (.slice none 0 0) [] [] :=
    { tG := tA, map := hmap, nice := hnice, sg := hsg.below bA, glt := by omega, gbox := .inr (Nat.le_refl _), bB := Nat.lt_succ_self _, BU := by omega, osh := World.ownsRow_nil _ _ _ _, oco := World.ownsRow_nil _ _ _ _, at_ := (fun p hp => by simp at hp), dis := List.Pairwise.nil, sfar := (fun p hp => by simp at hp), cfar := (fun p hp => by simp at hp), sgf := (fun k e => by cases e), cgf := (fun k e => by cases e) }
  replace hroom := hroom.below bA
  replace hr4 := hr4.below bA
  replace tO := tO.keep bA
  replace hwh4 : ∀ j, j < li.length → ∃ x : Int, (w4.alloc (.cells #[.slice aI0 gI.ins.length e0, .slice aI1 LI.length e1, .slice aI2 gI.shown.length e2] 30)).cell? ⟨gw, j, none⟩ = some (.int .i64 x) := fun j hj => by
    obtain ⟨x, e⟩ := hwh4 j hj
    exact ⟨x, cell_on bA (block_lt_of_cell e) e⟩
  replace B4 := B4.trans (But.of_below bA)
  have HK : Hid _ := And.intro hWG (And.intro hroom (And.intro hr4 (And.intro tO (And.intro hwh4 (And.intro B4 (And.intro zA (And.intro hcap z4)))))))
  clear bA tA hmap hsg hnice hWG hroom hr4 tO hwh4 B4 zA hcap z4
  go_wp2_with fail
  obtain ⟨hWG, hroom, hr4, tO, hwh4, B4, zA, hcap, z4⟩ := HK.out
  clear HK
  generalize w4.alloc (.cells #[.slice aI0 gI.ins.length e0, .slice aI1 LI.length e1, .slice aI2 gI.shown.length e2] 30) = W4 at *
  obtain ⟨bG, hbG⟩ : ∃ bG, bG = w4.heap.size := ⟨_, rfl⟩
  rw [← hbG] at hWG z4 zA hroom ⊢
  refine (pick_any rB n c p2 ab 14 W4 hr4 (by omega) (by omega) (by omega)).mono ?_
  rintro e w5 ⟨⟨y, rfl, hy0, hy1⟩, hr5, hb5⟩
  obtain ⟨y, rfl⟩ := Int.eq_ofNat_of_zero_le hy0
  have z5 := hb5.size
  replace hWG := hWG.but hb5 (by omega) (.inr (by omega))
  replace hroom := hroom.but hb5 (by omega)
  replace tO := tO.span (hb5.span (Nat.le_refl _) (Nat.lt_succ_self _)) (by omega)
  have hwh5 : ∀ j, j < li.length → ∃ x : Int, w5.cell? ⟨gw, j, none⟩ = some (.int .i64 x) := fun j hj => by
    obtain ⟨x, e⟩ := hwh4 j hj
    exact ⟨x, (hb5.cell (b := gw) j (block_lt_of_cell e) (by omega)).trans e⟩
  replace B4 := B4.trans hb5
  clear hr4 hwh4 hb5 hbG
  go_wp2_with fail
  refine (l6Feeds_any rB n c (p2 + 1) ab gw cw li.length y w5 hr5 (by omega) (by omega) (by omega) (by omega) (by omega) hwh5).mono ?_
  rintro e w6 ⟨⟨vf, Lf, p6, rfl, hg6, hfl, hr6, hp6⟩, hb6⟩
  have z6 := hb6.size
  obtain ⟨fa, fc, rfl, hfc, hrf⟩ := hg6.rows
  have hff := hg6.fit (by omega)
  replace hWG := hWG.but hb6 (by omega) (.inr (by omega))
  replace hroom := hroom.but hb6 (by omega)
  replace tO := tO.span (hb6.span (Nat.le_refl _) (Nat.lt_succ_self _)) (by omega)
  replace B4 := B4.trans hb6
  have HFS : Hid (∀ u, But bG w6 u → RowF u fa (Lf.map fvL)) := fun u hu => by
    obtain ⟨fa', fc', e, _, hrf'⟩ := (hg6.but hu (by omega)).rows
    simp only [Value.slice.injEq] at e
    obtain ⟨rfl, _, _⟩ := e
    exact hrf'
  have hl61 : (Lf.map fvL).length ≤ 61 := by rw [List.length_map]; omega
  generalize Lf.map fvL = fs at *
  clear hr5 hwh5 hb6 hg6 hrf hfl
  go_wp2_with fail
  go_loopw [7] (fun iv wr => ∃ (k glo ghi : Nat) (g : GatL) (Lw : List WinY) (a0 a1 a2 : Option Addr) (d0 d1 d2 : Nat), k ≤ fs.length ∧ iv = .int .i64 k ∧ PlyW (bG + 1) wr bG glo ghi g Lw a0 a1 a2 d0 d1 d2 (.slice none 0 0) (.slice none 0 0) [] [] ∧ (w.heap.size < glo ∧ glo ≤ ghi) ∧ (g.ins.length ≤ d0 ∧ d0 ≤ maxLen) ∧ RoomS wr glo ghi a0 a1 d0 d1 g.ins.length Lw.length ∧ But bG w6 wr) (fun iv _ => fs.length - (intOf iv).toNat)
  case atStart => exact ⟨0, w3.heap.size, bG, gI, LI, aI0, aI1, aI2, e0, e1, e2, by omega, rfl, hWG, ⟨by omega, by omega⟩, hcap, hroom, But.refl _ _⟩
  case round =>
    clear hWG hroom hcap
    obtain ⟨k, glo, ghi, g, Lw, p0, p1, p2', d0, d1, d2, hk, rfl, hWG, hglo, hcap, hroom, hbut⟩ := hrel
    have hzr := hbut.size
    by_cases hlt : k < fs.length
    · obtain ⟨bf, of, rfl, hbf, q0', q1', vq, q2', ⟨fa', fc', rfl, hfc', hrow⟩⟩ := HFS.out wr hbut k hlt
      have k0' : (0 : Int) ≤ (k : Int) := by omega
      have k1' : (k : Int) < (fs.length : Int) := by omega
      have hfk := hff.2 k hlt
      go_wp2_with fail
      have hbl : bG < wr.heap.size := block_lt_of_cell hWG.tG.c0
      have HSS : Hid (∀ u : World, Below wr.heap.size wr u → u.cell? ⟨bG, 0, none⟩ = some (.slice p0 g.ins.length d0) ∧ u.cell? ⟨bG, 1, none⟩ = some (.slice p1 Lw.length d1) ∧ u.cell? ⟨bG, 2, none⟩ = some (.slice p2' g.shown.length d2) ∧ u.cell? ⟨bf, of + k * 3, none⟩ = some (.int .i64 fs[k].1) ∧ u.cell? ⟨bf, of + k * 3 + 1, none⟩ = some (.int .i64 fs[k].2.1) ∧ u.cell? ⟨bf, of + k * 3 + 2, none⟩ = some (.slice fa' fs[k].2.2.length fc')) := fun u hu => ⟨cell_on hu hbl hWG.tG.c0, cell_on hu hbl hWG.tG.c1, cell_on hu hbl hWG.tG.c2, cell_on hu hbf q0', cell_on hu hbf q1', cell_on hu hbf q2'⟩
      obtain ⟨hLl, s0', s1', s2'⟩ := hWG.rows
      have hil' : g.ins.length ≤ 1048576 := by have := hWG.nice.ins; omega
      have hfitG := hWG.nice.fit
      have HLL : Hid (Lw.length = g.wins.length) := hLl
      clear hLl q0' q1' q2'
      refine wp_region_inv (by kernel_rfl) (by kernel_rfl) (fun f a u => ∃ (R : ResG) (b10 b11 : Nat) (v11 v12 v13 v32 v33 v34 v35 v36 v37 v38 v39 v40 v41 : Value), a = { tmps := #[Value.pointer (some { block := rB, off := 0 }), undef, Value.pointer (some { block := w.heap.size, off := 0 }), Value.slice (some { block := gw, off := 0 }) li.length cw, Value.pointer (some { block := bG, off := 0 }), Value.bool bb, Value.slice (some { block := bf, off := of }) fs.length fc, Value.int IntKind.i64 (k : Int), v11, v12, v13, Value.pointer (some { block := rB, off := 0 }), Value.slice (some { block := gw, off := 0 }) li.length cw, Value.tuple #[Value.agg #[Value.slice aI0 gI.ins.length e0, Value.slice aI1 LI.length e1, Value.slice aI2 gI.shown.length e2], Value.bool bb], Value.slice (some { block := gw, off := 0 }) li.length cw, Value.int IntKind.i64 (li.length : Int), Value.slice ia li.length ic, Value.tuple #[Value.agg #[Value.slice aI0 gI.ins.length e0, Value.slice aI1 LI.length e1, Value.slice aI2 gI.shown.length e2], Value.bool bb], Value.agg #[Value.slice aI0 gI.ins.length e0, Value.slice aI1 LI.length e1, Value.slice aI2 gI.shown.length e2], Value.bool bb, Value.pointer (some { block := rB, off := 0 }), Value.slice (some { block := gw, off := 0 }) li.length cw, Value.pointer (some { block := rB, off := 0 }), Value.int IntKind.i64 (y : Int), Value.slice (some { block := bf, off := of }) fs.length fc, Value.int IntKind.i64 (k : Int), Value.slice (some { block := bf, off := of }) fs.length fc, Value.int IntKind.i64 (fs.length : Int), Value.bool true, u29, u30, v32, v33, v34, v35, v36, v37, v38, v39, v40, v41, u41, u42, u43, undef, undef, undef, undef, undef, undef, undef, undef, undef, undef, undef, undef, undef, undef, undef, undef, undef, undef, undef, undef, undef, undef, undef, undef, undef, undef, undef, undef, undef, undef, undef, undef, undef, undef, undef, undef, undef, undef], defers := [] } ∧ Fy (CalS g fs[k].1 fs[k].2.1 fs[k].2.2) wr (.agg #[.slice p0 g.ins.length d0, .slice p1 Lw.length d1, .slice p2' g.shown.length d2]) (.slice (some ⟨bf, of, none⟩) fs.length fc) (.int .i64 (k : Int)) (.pointer (some ⟨bf, of + k * 3, none⟩)) (.agg #[.int .i64 fs[k].1, .int .i64 fs[k].2.1, .slice fa' fs[k].2.2.length fc']) f R b10 b11 v11 v12 v13 v32 v33 v34 v35 v36 v37 v38 v39 v40 v41 u) ?start ?step ?fin
      case start =>
        refine ⟨⟨⟨[], [], []⟩, [], [], [], 0, none, none, none, none, none, 0, 0, 0, 0, 0, 0, 0, 0, 0⟩, 0, 0, _, _, _, _, _, _, _, _, _, _, _, _, _, rfl, ?_⟩
        exact { bel := (Below.refl _ _).drew, k0 := (fun h => by cases h), k1 := (fun h => by cases h), k2 := (fun h => by cases h), k3 := (fun h => by cases h), k4 := (fun h => by cases h), k5 := (fun h => by cases h), k6 := (fun h => by cases h), k7 := (fun h => by cases h), k8 := (fun h => by cases h), k9 := (fun h => by cases h), k10 := (fun h => by cases h), k11 := (fun h => by cases h), k14 := (fun h => by cases h), ne := (fun h => by cases h), c6 := (fun h => by cases h), c7 := (fun h => by cases h), c8 := (fun h => by cases h), c9 := (fun h => by cases h), c12 := (fun h => by cases h), c13 := (fun h => by cases h), c14 := (fun h => by cases h) }
      case step =>
        rintro f a u j ⟨R, b10, b11, v11, v12, v13, v32, v33, v34, v35, v36, v37, v38, v39, v40, v41, rfl, hF⟩ hj hfj hw
        obtain ⟨z0, z1, z2, z3, z4, z5⟩ := HSS.out _ hF.bel
        have hj' : j < 15 := hj
        have hC : ∀ R u u', CalS g fs[k].1 fs[k].2.1 fs[k].2.2 R u → Below u.heap.size u u' → CalS g fs[k].1 fs[k].2.1 fs[k].2.2 R u' := fun R u u' h hb => h.below hb
        rcases (by omega : j = 0 ∨ j = 1 ∨ j = 2 ∨ j = 3 ∨ j = 4 ∨ j = 5 ∨ j = 6 ∨ j = 7 ∨ j = 8 ∨ j = 9 ∨ j = 10 ∨ j = 11 ∨ j = 12 ∨ j = 13 ∨ j = 14) with rfl | rfl | rfl | rfl | rfl | rfl | rfl | rfl | rfl | rfl | rfl | rfl | rfl | rfl | rfl
        · refine wpOp_wanted rfl (by kernel_rfl) ?_
          go_simp
          exact ⟨R, b10, b11, _, _, _, _, _, _, _, _, _, _, _, _, _, ⟨rfl, rfl, rfl, rfl, rfl, rfl, rfl, rfl, rfl, rfl, rfl, rfl, rfl⟩, { hF with k0 := fun _ => rfl }⟩
        · refine wpOp_wanted rfl (by kernel_rfl) ?_
          go_simp
          exact ⟨R, b10, b11, _, _, _, _, _, _, _, _, _, _, _, _, _, ⟨rfl, rfl, rfl, rfl, rfl, rfl, rfl, rfl, rfl, rfl, rfl, rfl, rfl⟩, { hF with k1 := fun _ => rfl }⟩
        · refine wpOp_wanted rfl (by kernel_rfl) ?_
          go_simp
          exact ⟨R, b10, b11, _, _, _, _, _, _, _, _, _, _, _, _, _, ⟨rfl, rfl, rfl, rfl, rfl, rfl, rfl, rfl, rfl, rfl, rfl, rfl, rfl⟩, { hF with k2 := fun _ => rfl }⟩
        · have h1 : f 1 = true := hw 1 (of_decide_eq_true (by kernel_rfl))
          have h2 : f 2 = true := hw 2 (of_decide_eq_true (by kernel_rfl))
          obtain rfl := hF.k1 h1
          obtain rfl := hF.k2 h2
          refine wpOp_wanted rfl (by kernel_rfl) ?_
          go_simp
          exact ⟨R, b10, b11, _, _, _, _, _, _, _, _, _, _, _, _, _, ⟨rfl, rfl, rfl, rfl, rfl, rfl, rfl, rfl, rfl, rfl, rfl, rfl, rfl⟩, { hF with k3 := fun _ => rfl }⟩
        · have h3 : f 3 = true := hw 3 (of_decide_eq_true (by kernel_rfl))
          obtain rfl := hF.k3 h3
          refine wpOp_wanted rfl (by kernel_rfl) ?_
          go_simp
          exact ⟨R, b10, b11, _, _, _, _, _, _, _, _, _, _, _, _, _, ⟨rfl, rfl, rfl, rfl, rfl, rfl, rfl, rfl, rfl, rfl, rfl, rfl, rfl⟩, { hF with k4 := fun _ => rfl }⟩
        · have h0 : f 0 = true := hw 0 (of_decide_eq_true (by kernel_rfl))
          have h4 : f 4 = true := hw 4 (of_decide_eq_true (by kernel_rfl))
          obtain rfl := hF.k0 h0
          obtain rfl := hF.k4 h4
          have hcall := specGP_any p0 p1 p2' fa' d0 d1 d2 fc' g fs[k].1 fs[k].2.1 fs[k].2.2 u hfitG hil' (s0'.below hF.bel) (s1'.below hF.bel) (s2'.below hF.bel) hfk (hrow.below hF.bel)
          rw [← HLL.out] at hcall
          refine wpOp_wanted rfl (by kernel_rfl) ?_
          go_simp
          refine Calls.mono hcall ?_
          rintro e n ⟨hE, bx⟩
          obtain ⟨R', rfl, e1, e2, hcal⟩ := hE.cal bx.size
          have hF' := hF.below hC bx
          have no6 : f 6 = true → False := fun h => by have := hF.c6 h; rw [hfj] at this; cases this
          have no7 : f 7 = true → False := fun h => by have := hF.c7 h; rw [hfj] at this; cases this
          have no8 : f 8 = true → False := fun h => by have := hF.c8 h; rw [hfj] at this; cases this
          have no9 : f 9 = true → False := fun h => by have := hF.c9 h; rw [hfj] at this; cases this
          have no12 : f 12 = true → False := fun h => by have := (hF.c12 h).1; rw [hfj] at this; cases this
          have no13 : f 13 = true → False := fun h => by have := (hF.c13 h).1; rw [hfj] at this; cases this
          have no14 : f 14 = true → False := fun h => by have := hF.c14 h; rw [hfj] at this; cases this
          have zW := hF.bel.size
          exact ⟨R', b10, b11, _, _, _, _, _, _, _, _, _, _, _, _, _, ⟨rfl, rfl, rfl, rfl, rfl, rfl, rfl, rfl, rfl, rfl, rfl, rfl, rfl⟩, { bel := hF'.bel, k0 := hF'.k0, k1 := hF'.k1, k2 := hF'.k2, k3 := hF'.k3, k4 := hF'.k4, k5 := fun _ => ⟨rfl, hcal, by rw [e1]; exact zW⟩, k6 := fun e => (no6 e).elim, k7 := fun e => (no7 e).elim, k8 := fun e => (no8 e).elim, k9 := fun e => (no9 e).elim, k10 := fun e => let ⟨q0, q1, q2, q3, q4, q5⟩ := hF'.k10 e; ⟨q0, q1, q2, fun _ => .inl (by rw [e1]; exact (hF.k10 e).2.2.1), q4, fun e' => (no12 e').elim⟩, k11 := fun e => let ⟨q0, q1, q2, q3, q4, q5⟩ := hF'.k11 e; ⟨q0, q1, q2, fun _ => .inl (by rw [e1]; exact (hF.k11 e).2.2.1), q4, fun e' => (no13 e').elim⟩, k14 := fun e => (no14 e).elim, ne := hF'.ne, c6 := fun _ => rfl, c7 := fun _ => rfl, c8 := fun _ => rfl, c9 := fun _ => rfl, c12 := fun e => (no12 e).elim, c13 := fun e => (no13 e).elim, c14 := fun e => (no14 e).elim }⟩
        · have h5 : f 5 = true := hw 5 (of_decide_eq_true (by kernel_rfl))
          obtain ⟨rfl, _, _⟩ := hF.k5 h5
          refine wpOp_wanted rfl (by kernel_rfl) ?_
          go_simp
          exact ⟨R, b10, b11, _, _, _, _, _, _, _, _, _, _, _, _, _, ⟨rfl, rfl, rfl, rfl, rfl, rfl, rfl, rfl, rfl, rfl, rfl, rfl, rfl⟩, { hF with k6 := fun _ => rfl, c6 := fun _ => h5 }⟩
        · have h6 : f 6 = true := hw 6 (of_decide_eq_true (by kernel_rfl))
          have h5 := hF.c6 h6
          obtain rfl := hF.k6 h6
          refine wpOp_wanted rfl (by kernel_rfl) ?_
          go_simp
          exact ⟨R, b10, b11, _, _, _, _, _, _, _, _, _, _, _, _, _, ⟨rfl, rfl, rfl, rfl, rfl, rfl, rfl, rfl, rfl, rfl, rfl, rfl, rfl⟩, { hF with k7 := fun _ => rfl, c7 := fun _ => h5 }⟩
        · have h6 : f 6 = true := hw 6 (of_decide_eq_true (by kernel_rfl))
          have h5 := hF.c6 h6
          obtain rfl := hF.k6 h6
          refine wpOp_wanted rfl (by kernel_rfl) ?_
          go_simp
          exact ⟨R, b10, b11, _, _, _, _, _, _, _, _, _, _, _, _, _, ⟨rfl, rfl, rfl, rfl, rfl, rfl, rfl, rfl, rfl, rfl, rfl, rfl, rfl⟩, { hF with k8 := fun _ => rfl, c8 := fun _ => h5 }⟩
        · have h6 : f 6 = true := hw 6 (of_decide_eq_true (by kernel_rfl))
          have h5 := hF.c6 h6
          obtain rfl := hF.k6 h6
          refine wpOp_wanted rfl (by kernel_rfl) ?_
          go_simp
          exact ⟨R, b10, b11, _, _, _, _, _, _, _, _, _, _, _, _, _, ⟨rfl, rfl, rfl, rfl, rfl, rfl, rfl, rfl, rfl, rfl, rfl, rfl, rfl⟩, { hF with k9 := fun _ => rfl, c9 := fun _ => h5 }⟩
        · refine wpOp_wanted rfl (by kernel_rfl) ?_
          go_simp
          have bx : Below u.heap.size u (u.alloc (.cells #[.slice none 0 0, .slice none 0 0, .slice none 0 0] 30)) := (Below.refl _ _).alloc (Nat.le_refl _) _
          have hF' := hF.below hC bx
          have no12 : f 12 = true → False := fun h => by have := (hF.c12 h).2; rw [hfj] at this; cases this
          have hnew := tri_new u (.slice none 0 0) (.slice none 0 0) (.slice none 0 0) 30
          have zW := hF.bel.size
          exact ⟨R, u.heap.size, b11, _, _, _, _, _, _, _, _, _, _, _, _, _, ⟨rfl, rfl, rfl, rfl, rfl, rfl, rfl, rfl, rfl, rfl, rfl, rfl, rfl⟩, { hF' with k10 := fun _ => ⟨rfl, zW, by simp, fun e => .inr (hF.k5 e).2.1.o4, fun _ => hnew, fun e => (no12 e).elim⟩, ne := fun _ e => Nat.ne_of_gt (hF.k11 e).2.2.1, c12 := fun e => (no12 e).elim }⟩
        · refine wpOp_wanted rfl (by kernel_rfl) ?_
          go_simp
          have bx : Below u.heap.size u (u.alloc (.cells #[.slice none 0 0, .slice none 0 0] 36)) := (Below.refl _ _).alloc (Nat.le_refl _) _
          have hF' := hF.below hC bx
          have no13 : f 13 = true → False := fun h => by have := (hF.c13 h).2; rw [hfj] at this; cases this
          have hnew := duo_new u (.slice none 0 0) (.slice none 0 0) 36
          have zW := hF.bel.size
          exact ⟨R, b10, u.heap.size, _, _, _, _, _, _, _, _, _, _, _, _, _, ⟨rfl, rfl, rfl, rfl, rfl, rfl, rfl, rfl, rfl, rfl, rfl, rfl, rfl⟩, { hF' with k11 := fun _ => ⟨rfl, zW, by simp, fun e => .inr (hF.k5 e).2.1.o4, fun _ => hnew, fun e => (no13 e).elim⟩, ne := fun e _ => Nat.ne_of_lt (hF.k10 e).2.2.1, c13 := fun e => (no13 e).elim }⟩
        · have h10 : f 10 = true := hw 10 (of_decide_eq_true (by kernel_rfl))
          have h7 : f 7 = true := hw 7 (of_decide_eq_true (by kernel_rfl))
          have h11 : f 11 = true := hw 11 (of_decide_eq_true (by kernel_rfl))
          have h5 := hF.c7 h7
          obtain rfl := hF.k7 h7
          obtain ⟨rfl, q1, q2, q3, q4, _⟩ := hF.k10 h10
          have tt := q4 hfj
          obtain ⟨i0, i1, i2, o0, o1, o2⟩ := id tt
          refine wpOp_wanted rfl (by kernel_rfl) ?_
          go_simp
          have sx : Span b10 (b10 + 1) u (((u.setCell ⟨b10, 0, none⟩ (.slice R.s0 R.g.ins.length R.d0)).setCell ⟨b10, 1, none⟩ (.slice R.s1 R.L.length R.d1)).setCell ⟨b10, 2, none⟩ (.slice R.s2 R.g.shown.length R.d2)) := (((Span.refl _ _ _).setCell (Nat.le_refl _) (Nat.lt_succ_self _) _ _).setCell (Nat.le_refl _) (Nat.lt_succ_self _) _ _).setCell (Nat.le_refl _) (Nat.lt_succ_self _) _ _
          have tn := ((tt.set0 (.slice R.s0 R.g.ins.length R.d0)).set1 (.slice R.s1 R.L.length R.d1)).set2c (.slice R.s2 R.g.shown.length R.d2)
          have zx : (((u.setCell ⟨b10, 0, none⟩ (.slice R.s0 R.g.ins.length R.d0)).setCell ⟨b10, 1, none⟩ (.slice R.s1 R.L.length R.d1)).setCell ⟨b10, 2, none⟩ (.slice R.s2 R.g.shown.length R.d2)).heap.size = u.heap.size := by simp
          have far := q3 h5
          have ne := hF.ne h10 h11
          have hb' := hF.bel.trans (sx.below q1 hF.bel.size)
          generalize (((u.setCell ⟨b10, 0, none⟩ (.slice R.s0 R.g.ins.length R.d0)).setCell ⟨b10, 1, none⟩ (.slice R.s1 R.L.length R.d1)).setCell ⟨b10, 2, none⟩ (.slice R.s2 R.g.shown.length R.d2)) = n at *
          exact ⟨R, b10, b11, _, _, _, _, _, _, _, _, _, _, _, _, _, ⟨rfl, rfl, rfl, rfl, rfl, rfl, rfl, rfl, rfl, rfl, rfl, rfl, rfl⟩, { bel := hb', k0 := hF.k0, k1 := hF.k1, k2 := hF.k2, k3 := hF.k3, k4 := hF.k4, k5 := fun e => let ⟨r0, r1, r2⟩ := hF.k5 e; ⟨r0, r1.span sx (by omega), r2⟩, k6 := hF.k6, k7 := hF.k7, k8 := hF.k8, k9 := hF.k9, k10 := fun _ => ⟨rfl, q1, by omega, fun _ => far, (fun e => by cases e), fun _ => tn⟩, k11 := fun e => let ⟨r0, r1, r2, r3, r4, r5⟩ := hF.k11 e; ⟨r0, r1, by omega, r3, fun e' => (r4 e').span sx (by omega), fun e' => (r5 e').span sx (by omega)⟩, k14 := hF.k14, ne := hF.ne, c6 := hF.c6, c7 := hF.c7, c8 := hF.c8, c9 := hF.c9, c12 := fun _ => ⟨h5, h10⟩, c13 := hF.c13, c14 := hF.c14 }⟩
        · have h11 : f 11 = true := hw 11 (of_decide_eq_true (by kernel_rfl))
          have h8 : f 8 = true := hw 8 (of_decide_eq_true (by kernel_rfl))
          have h10 : f 10 = true := hw 10 (of_decide_eq_true (by kernel_rfl))
          have h5 := hF.c8 h8
          obtain rfl := hF.k8 h8
          obtain ⟨rfl, q1, q2, q3, q4, _⟩ := hF.k11 h11
          have tt := q4 hfj
          obtain ⟨i0, i1, o0, o1⟩ := id tt
          refine wpOp_wanted rfl (by kernel_rfl) ?_
          go_simp
          have sx : Span b11 (b11 + 1) u ((u.setCell ⟨b11, 0, none⟩ (.slice R.s3 R.sv.length R.d3)).setCell ⟨b11, 1, none⟩ (.slice R.s4 R.ss.length R.d4)) := ((Span.refl _ _ _).setCell (Nat.le_refl _) (Nat.lt_succ_self _) _ _).setCell (Nat.le_refl _) (Nat.lt_succ_self _) _ _
          have tn := (tt.set0 (.slice R.s3 R.sv.length R.d3)).set1 (.slice R.s4 R.ss.length R.d4)
          have zx : ((u.setCell ⟨b11, 0, none⟩ (.slice R.s3 R.sv.length R.d3)).setCell ⟨b11, 1, none⟩ (.slice R.s4 R.ss.length R.d4)).heap.size = u.heap.size := by simp
          have far := q3 h5
          have ne := hF.ne h10 h11
          have hb' := hF.bel.trans (sx.below q1 hF.bel.size)
          generalize ((u.setCell ⟨b11, 0, none⟩ (.slice R.s3 R.sv.length R.d3)).setCell ⟨b11, 1, none⟩ (.slice R.s4 R.ss.length R.d4)) = n at *
          exact ⟨R, b10, b11, _, _, _, _, _, _, _, _, _, _, _, _, _, ⟨rfl, rfl, rfl, rfl, rfl, rfl, rfl, rfl, rfl, rfl, rfl, rfl, rfl⟩, { bel := hb', k0 := hF.k0, k1 := hF.k1, k2 := hF.k2, k3 := hF.k3, k4 := hF.k4, k5 := fun e => let ⟨r0, r1, r2⟩ := hF.k5 e; ⟨r0, r1.span sx (by omega), r2⟩, k6 := hF.k6, k7 := hF.k7, k8 := hF.k8, k9 := hF.k9, k11 := fun _ => ⟨rfl, q1, by omega, fun _ => far, (fun e => by cases e), fun _ => tn⟩, k10 := fun e => let ⟨r0, r1, r2, r3, r4, r5⟩ := hF.k10 e; ⟨r0, r1, by omega, r3, fun e' => (r4 e').span sx (by omega), fun e' => (r5 e').span sx (by omega)⟩, k14 := hF.k14, ne := hF.ne, c6 := hF.c6, c7 := hF.c7, c8 := hF.c8, c9 := hF.c9, c12 := hF.c12, c13 := fun _ => ⟨h5, h11⟩, c14 := hF.c14 }⟩
        · have h9 : f 9 = true := hw 9 (of_decide_eq_true (by kernel_rfl))
          have h5 := hF.c9 h9
          obtain rfl := hF.k9 h9
          refine wpOp_wanted rfl (by kernel_rfl) ?_
          go_simp
          exact ⟨R, b10, b11, _, _, _, _, _, _, _, _, _, _, _, _, _, ⟨rfl, rfl, rfl, rfl, rfl, rfl, rfl, rfl, rfl, rfl, rfl, rfl, rfl⟩, { hF with k14 := fun _ => rfl, c14 := fun _ => h5 }⟩
      case fin =>
        rintro f a u ⟨R, b10, b11, v11, v12, v13, v32, v33, v34, v35, v36, v37, v38, v39, v40, v41, rfl, hF⟩ hall
        have hm6 := hF.k6 (hall 6 (of_decide_eq_true (by kernel_rfl)))
        have hm7 := hF.k7 (hall 7 (of_decide_eq_true (by kernel_rfl)))
        have hm8 := hF.k8 (hall 8 (of_decide_eq_true (by kernel_rfl)))
        have hm9 := hF.k9 (hall 9 (of_decide_eq_true (by kernel_rfl)))
        have hm0 := hF.k0 (hall 0 (of_decide_eq_true (by kernel_rfl)))
        have hm1 := hF.k1 (hall 1 (of_decide_eq_true (by kernel_rfl)))
        have hm2 := hF.k2 (hall 2 (of_decide_eq_true (by kernel_rfl)))
        have hm3 := hF.k3 (hall 3 (of_decide_eq_true (by kernel_rfl)))
        have hm4 := hF.k4 (hall 4 (of_decide_eq_true (by kernel_rfl)))
        subst hm0 hm1 hm2 hm3 hm4 hm6 hm7 hm8 hm9
        obtain ⟨rfl, hI, wtl⟩ := hF.k5 (hall 5 (of_decide_eq_true (by kernel_rfl)))
        obtain ⟨rfl, w10, l10, far10, _, tT⟩ := hF.k10 (hall 10 (of_decide_eq_true (by kernel_rfl)))
        obtain ⟨rfl, w11, l11, far11, _, dS⟩ := hF.k11 (hall 11 (of_decide_eq_true (by kernel_rfl)))
        obtain rfl := hF.k14 (hall 14 (of_decide_eq_true (by kernel_rfl)))
        have ne := hF.ne (hall 10 (of_decide_eq_true (by kernel_rfl))) (hall 11 (of_decide_eq_true (by kernel_rfl)))
        replace tT := tT (hall 12 (of_decide_eq_true (by kernel_rfl)))
        replace dS := dS (hall 13 (of_decide_eq_true (by kernel_rfl)))
        replace far10 := far10 (hall 5 (of_decide_eq_true (by kernel_rfl)))
        replace far11 := far11 (hall 5 (of_decide_eq_true (by kernel_rfl)))
        have bU := hF.bel
        have zU := bU.size
        have hbutU : But bG w6 u := hbut.trans (But.of_below bU)
        have hWGu := hWG.keep bU
        have hroomU := hroom.below bU
        have hnice := hI.put.nice.1
        have o1 := hI.o1
        have o4 := hI.o4
        clear hF hall HSS hWG hroom s0' s1' s2' hrow
        by_cases h2 : R.code = 2
        · have HX : Hid _ := And.intro hWGu (And.intro hroomU hbutU)
          have h2' : (R.code != 2) = false := by rw [h2]; rfl
          clear hWGu hroomU hbutU hbut hI tT dS bU
          go_wp2_with fail
          exact ⟨⟨k + 1, glo, ghi, g, Lw, p0, p1, p2', d0, d1, d2, by omega, by go_num, HX.out.1, hglo, hcap, HX.out.2.1, HX.out.2.2⟩, by simp [intOf]; omega⟩
        · have h2' : (R.code != 2) = true := by rw [bne_iff_ne]; exact h2
          have hWG6 := hWGu.put (d0' := R.d0) (d1' := R.d1) (d2' := R.d2) hI.map hnice hI.sg (by omega) (.inl (by omega)) (fun j e => by cases e) (fun j e => by cases e)
          have hb6 : But bG u (((u.setCell ⟨bG, 0, none⟩ (.slice R.s0 R.g.ins.length R.d0)).setCell ⟨bG, 1, none⟩ (.slice R.s1 R.L.length R.d1)).setCell ⟨bG, 2, none⟩ (.slice R.s2 R.g.shown.length R.d2)) := (((But.refl _ _).setCell _ _).setCell _ _).setCell _ _
          have HG6 : Hid (∃ G6, (((u.setCell ⟨bG, 0, none⟩ (.slice R.s0 R.g.ins.length R.d0)).setCell ⟨bG, 1, none⟩ (.slice R.s1 R.L.length R.d1)).setCell ⟨bG, 2, none⟩ (.slice R.s2 R.g.shown.length R.d2)) = G6) := ⟨_, rfl⟩
          obtain ⟨G6, hG6⟩ := HG6.out
          clear HG6
          rw [hG6] at hWG6 hb6
          have HG6 : Hid ((((u.setCell ⟨bG, 0, none⟩ (.slice R.s0 R.g.ins.length R.d0)).setCell ⟨bG, 1, none⟩ (.slice R.s1 R.L.length R.d1)).setCell ⟨bG, 2, none⟩ (.slice R.s2 R.g.shown.length R.d2)) = G6) := hG6
          clear hG6
          have HFIN : Hid (PlyW (bG + 1) G6 bG R.tl R.th R.g R.L R.s0 R.s1 R.s2 R.d0 R.d1 R.d2 (.slice none 0 0) (.slice none 0 0) [] [] ∧ RoomS G6 R.tl R.th R.s0 R.s1 R.d0 R.d1 R.g.ins.length R.L.length ∧ But bG w6 G6 ∧ (R.g.ins.length ≤ R.d0 ∧ R.d0 ≤ maxLen) ∧ (w.heap.size < R.tl ∧ R.tl ≤ R.th)) := ⟨hWG6, hI.room.but hb6 (by omega), hbutU.trans hb6, hI.cap, by omega, o1⟩
          obtain ⟨y0, y1, y2, y3, y4, y5⟩ := id hWGu.tG
          obtain ⟨m0, m1, m2, _, _, _⟩ := id tT
          clear hWG6 hb6 hWGu hroomU hbutU hbut hI tT dS bU
          go_wp2_with (first | rw [HG6.out])
          exact ⟨⟨k + 1, R.tl, R.th, R.g, R.L, R.s0, R.s1, R.s2, R.d0, R.d1, R.d2, by omega, by go_num, HFIN.out.1, HFIN.out.2.2.2.2, HFIN.out.2.2.2.1, HFIN.out.2.1, HFIN.out.2.2.1⟩, by simp [intOf]; omega⟩
    · have hlt' : decide ((k : Int) < (fs.length : Int)) = false := decide_eq_false (by omega)
      have hr7 := hr6.but hbut (by omega)
      have tO7 := tO.span (hbut.span (Nat.le_refl _) (Nat.lt_succ_self _)) (by omega)
      have B7 : But rB w wr := B4.trans' hbut (by omega)
      go_wp2_with fail
      refine (pick_any rB n c p6 ab 40 wr hr7 (by omega) (by omega) (by omega)).mono ?_
      rintro e w8 ⟨⟨z, rfl, hz0', hz1'⟩, hr8, hb8⟩
      have hbl : bG < wr.heap.size := block_lt_of_cell hWG.tG.c0
      have hgw : GW bG glo wr (.slice p0 g.ins.length d0) (.slice p1 Lw.length d1) g.ins Lw p2' g.shown := hWG.sg.gw hroom hWG.glt hWG.gbox hbl
      have HF : Hid (FitS g.ins ∧ FitW (Lw.map (·.l)) ∧ FitM g.shown) := by
        have h1 := hWG.nice.fit
        have h2 := h1.wins
        rw [← hWG.map] at h2
        exact ⟨h1.ins, h2, h1.shown⟩
      have hn6 := hWG.nice.ins
      have hw6 : Lw.length ≤ 6 := by have := hWG.nice.wins; rw [← hWG.map, List.length_map] at this; exact this
      have tG8 := hWG.tG.span (hb8.span (Nat.le_refl _) (Nat.lt_succ_self _)) (by omega)
      have tO8 := tO7.span (hb8.span (Nat.le_refl _) (Nat.lt_succ_self _)) (by omega)
      have B8 : But rB w w8 := B7.trans hb8
      have z8 := hb8.size
      replace hgw := hgw.agree (hb8.agreeX (.inl (by omega)))
      have glt8 := hgw.lt
      have hgl8 : glo ≤ w8.heap.size := by have := hWG.glt; omega
      clear hWG hroom hbut hr7 tO7 B7 hb8 HFS hcap hff hbl
      generalize g.ins = nm at *
      generalize g.shown = sh at *
      by_cases e0 : z = 0
      · subst e0
        go_wp2_with fail
        refine (l6Marks_any rB n c (p6 + 1) ab w8 hr8 (by omega)).mono ?_
        rintro e w9 ⟨⟨mv, ml, p9, rfl, hgm, hml, hmz, _, _⟩, hb9⟩
        obtain ⟨ma, mc, rfl, hsafe⟩ := hgm.safe
        have z9 := hb9.size
        have tG9 := tG8.span (hb9.span (Nat.le_refl _) (Nat.lt_succ_self _)) (by omega)
        have tO9 := tO8.span (hb9.span (Nat.le_refl _) (Nat.lt_succ_self _)) (by omega)
        have B9 : But rB w w9 := B8.trans hb9
        have gw9 : GW bG glo w9 (.slice p0 nm.length d0) (.slice p1 Lw.length d1) nm Lw ma ml := { hgw.agree (hb9.agreeX (.inl (by omega))) with sh := hsafe.imp id fun ⟨s, e, h1, h2, h3⟩ => ⟨s, e, by omega, by omega, h3⟩ }
        have HYY : Hid (∃ Y, w9.setCell ⟨bG, 2, none⟩ (.slice ma ml.length mc) = Y) := ⟨_, rfl⟩
        obtain ⟨Y, hYY⟩ := HYY.out
        clear HYY
        have bY : But bG w9 Y := by rw [← hYY]; exact (But.refl _ _).setCell _ _
        have tY : Tri Y bG (.slice p0 nm.length d0) (.slice p1 Lw.length d1) (.slice ma ml.length mc) := by rw [← hYY]; exact tG9.set2c _
        have uY := tO9.span (bY.span (Nat.le_refl _) (Nat.lt_succ_self _)) (by omega)
        have gY := gw9.agree (bY.agreeX (.inr rfl))
        have BY : But rB w Y := by rw [← hYY]; exact B9.setOut (by omega) 2 _
        have HYY : Hid (w9.setCell ⟨bG, 2, none⟩ (.slice ma ml.length mc) = Y) := hYY
        obtain ⟨x0, x1, x2, x3, x4, x5⟩ := id tG9
        clear tG9 tO9 B9 gw9 bY hYY hgm hb9 hsafe
        have HX : Hid (GW bG glo Y (.slice p0 nm.length d0) (.slice p1 Lw.length d1) (nm) (Lw) ma (ml) ∧ But rB w Y ∧ FitG ⟨nm, (Lw).map (·.l), ml⟩ ∧ (nm).length ≤ 100) := ⟨gY, BY, ⟨HF.out.1, HF.out.2.1, few_fitM hml hmz⟩, by omega⟩
        obtain ⟨y0, y1, y2, _, _, _⟩ := id tY
        obtain ⟨i0', i1', i2', f0, f1, f2⟩ := id uY
        clear gY tY uY BY hgw tG8 tO8 B8 hr8
        go_wp2_with (rw [HYY.out])
        obtain ⟨w9, h9⟩ : ∃ w9, ((Y.setCell ⟨w.heap.size, 0, none⟩ (.slice p0 nm.length d0)).setCell ⟨w.heap.size, 1, none⟩ (.slice p1 Lw.length d1)).setCell ⟨w.heap.size, 2, none⟩ (.slice ma ml.length mc) = w9 := ⟨_, rfl⟩
        have B9 : But rB w w9 := by rw [← h9]; exact ((HX.out.2.1.setOut (Nat.le_refl _) 0 _).setOut (Nat.le_refl _) 1 _).setOut (Nat.le_refl _) 2 _
        have A9 : But w.heap.size Y w9 := by rw [← h9]; exact (((But.refl _ _).setCell _ _).setCell _ _).setCell _ _
        have n0 : w9.cell? ⟨w.heap.size, 0, none⟩ = some (.slice p0 nm.length d0) := by rw [← h9]; simp [go_sem, i0']
        have n1 : w9.cell? ⟨w.heap.size, 1, none⟩ = some (.slice p1 Lw.length d1) := by rw [← h9]; simp [go_sem, i1']
        have n2 : w9.cell? ⟨w.heap.size, 2, none⟩ = some (.slice ma ml.length mc) := by rw [← h9]; simp [go_sem, i2']
        rw [h9]
        clear h9
        exact bodyPost_ret (v := .agg #[.slice p0 nm.length d0, .slice p1 Lw.length d1, .slice ma ml.length mc]) (by simp [results, Tryz.results51, go_sem, n0, n1, n2]) rfl ⟨⟨⟨nm, (Lw).map (·.l), ml⟩, p0, d0, p1, d1, ma, mc, by simp, HX.out.2.2.1, HX.out.2.2.2, HX.out.1.cap, (HX.out.1.agree (A9.agreeX (.inl (by omega)))).rowsAt (by omega)⟩, B9⟩
      by_cases e1 : z = 1
      · subst e1
        have bI : Below w8.heap.size w8 (w8.alloc (.cells #[.string ⟨#[98]⟩] 9)) := (Below.refl _ _).alloc (Nat.le_refl _) _
        have gI := hgw.agree (below_agreeX bI)
        have tI := tG8.keep bI
        have uI := tO8.keep bI
        have BI : But rB w (w8.alloc (.cells #[.string ⟨#[98]⟩] 9)) := B8.trans (But.of_below bI)
        have rI := hr8.below bI
        obtain ⟨y0, y1, y2, y3, y4, y5⟩ := id tG8
        have zI : (w8.alloc (.cells #[.string ⟨#[98]⟩] 9)).heap.size = w8.heap.size + 1 := by simp
        have HI : Hid _ := And.intro tI (And.intro uI (And.intro BI (And.intro rI zI)))
        clear tI uI BI rI bI zI
        go_wp2_with (at_builtin; refine wpList_append_lies _ rfl _ _ 23 rfl glo 9 i0 (.string .empty) 1 16 Tryz.underlying23 hi hz0 hz1 hz2 rfl (by decide) _ _ _ rfl gI.o0 ⟨w8.heap.size, 0, none⟩ 1 1 [.string ⟨#[98]⟩] rfl rfl (one_new w8 _ _) (by simp [Value.oneCell']) (by decide) (by unfold maxLen; omega) (by omega) (by simp; omega) _ rfl ?_; intro ga gc X' hown hgrow hloc hgl; refine hid_hold ?_)
        unfold Hid
        obtain ⟨tI, uI, BI, rI, zI⟩ := HI.out
        clear HI y0 y1 y2 y3 y4 y5
        have hfrom := fun q e => own_from gI.o0 q e
        have g7 := gI.snoc0 hown hgrow (by rcases hloc with q | q; exact .inl q.symm; exact .inr (congrArg some q))
        have hbx := gI.x0
        replace tI := tI.grown hgrow (fun e => hbx _ e.symm rfl)
        replace uI := uI.grown hgrow (fun e => by have := hfrom _ e.symm; omega)
        replace BI := BI.grown hgrow (fun q e => by have := hfrom q e; omega)
        replace rI := rI.grown hgrow (fun q e => by have := hfrom q e; omega)
        have zX := hgrow.size
        clear hown hgrow hloc hfrom gI hbx
        have HXX : Hid (∃ X, X'.setCell ⟨bG, 0, none⟩ (.slice (some ⟨ga, 0, none⟩) (nm.length + 1) gc) = X) := ⟨_, rfl⟩
        obtain ⟨X, hXX⟩ := HXX.out
        clear HXX
        have bX : But bG X' X := by rw [← hXX]; exact (But.refl _ _).setCell _ _
        have tX : Tri X bG (.slice (some ⟨ga, 0, none⟩) (nm.length + 1) gc) (.slice p1 Lw.length d1) (.slice p2' sh.length d2) := by rw [← hXX]; exact tI.set0 _
        have uX := uI.span (bX.span (Nat.le_refl _) (Nat.lt_succ_self _)) (by omega)
        have gX := g7.agree (bX.agreeX (.inr rfl))
        have BX : But rB w X := by rw [← hXX]; exact BI.setOut (by omega) 0 _
        have rX := rI.but bX (by omega)
        have zX2 := bX.size
        obtain ⟨y0, y1, y2, y3, y4, y5⟩ := id tI
        have HXX : Hid (X'.setCell ⟨bG, 0, none⟩ (.slice (some ⟨ga, 0, none⟩) (nm.length + 1) gc) = X) := hXX
        clear tI uI BI rI bX g7 hXX
        clear hgw tG8 tO8 B8 hr8 rX
        have HX : Hid (GW bG glo X (.slice (some ⟨ga, 0, none⟩) (nm.length + 1) gc) (.slice p1 Lw.length d1) (nm ++ [(⟨#[98]⟩ : ByteArray)]) (Lw) p2' (sh) ∧ But rB w X ∧ FitG ⟨nm ++ [(⟨#[98]⟩ : ByteArray)], (Lw).map (·.l), sh⟩ ∧ (nm ++ [(⟨#[98]⟩ : ByteArray)]).length ≤ 100) := ⟨gX, BX, ⟨fitS_snoc HF.out.1 (by omega) (by decide), HF.out.2.1, HF.out.2.2⟩, by simp; omega⟩
        obtain ⟨x0, x1, x2, _, _, _⟩ := id tX
        obtain ⟨i0', i1', i2', f0, f1, f2⟩ := id uX
        clear gX uX BX
        go_wp2_with (rw [HXX.out])
        obtain ⟨w9, h9⟩ : ∃ w9, ((X.setCell ⟨w.heap.size, 0, none⟩ (.slice (some ⟨ga, 0, none⟩) (nm.length + 1) gc)).setCell ⟨w.heap.size, 1, none⟩ (.slice p1 Lw.length d1)).setCell ⟨w.heap.size, 2, none⟩ (.slice p2' sh.length d2) = w9 := ⟨_, rfl⟩
        have B9 : But rB w w9 := by rw [← h9]; exact ((HX.out.2.1.setOut (Nat.le_refl _) 0 _).setOut (Nat.le_refl _) 1 _).setOut (Nat.le_refl _) 2 _
        have A9 : But w.heap.size X w9 := by rw [← h9]; exact (((But.refl _ _).setCell _ _).setCell _ _).setCell _ _
        have n0 : w9.cell? ⟨w.heap.size, 0, none⟩ = some (.slice (some ⟨ga, 0, none⟩) (nm.length + 1) gc) := by rw [← h9]; simp [go_sem, i0']
        have n1 : w9.cell? ⟨w.heap.size, 1, none⟩ = some (.slice p1 Lw.length d1) := by rw [← h9]; simp [go_sem, i1']
        have n2 : w9.cell? ⟨w.heap.size, 2, none⟩ = some (.slice p2' sh.length d2) := by rw [← h9]; simp [go_sem, i2']
        rw [h9]
        clear h9
        exact bodyPost_ret (v := .agg #[.slice (some ⟨ga, 0, none⟩) (nm.length + 1) gc, .slice p1 Lw.length d1, .slice p2' sh.length d2]) (by simp [results, Tryz.results51, go_sem, n0, n1, n2]) rfl ⟨⟨⟨nm ++ [(⟨#[98]⟩ : ByteArray)], (Lw).map (·.l), sh⟩, (some ⟨ga, 0, none⟩), gc, p1, d1, p2', d2, by simp, HX.out.2.2.1, HX.out.2.2.2, HX.out.1.cap, (HX.out.1.agree (A9.agreeX (.inl (by omega)))).rowsAt (by omega)⟩, B9⟩
      by_cases e2 : z = 2
      · subst e2
        go_wp2_with fail
        have hbd : Below w8.heap.size w8 w8.drew := (Below.refl _ _).drew
        have hrd := hr8.below hbd
        have gwd := hgw.agree (below_agreeX hbd)
        have tGd := tG8.keep hbd
        have tOd := tO8.keep hbd
        have Bd : But rB w w8.drew := B8.trans (But.of_below hbd)
        have zd : w8.drew.heap.size = w8.heap.size := rfl
        have x1d := tGd.c1
        refine wp_region_held_drew (S := fun _ => True) (by kernel_rfl) trivial (fun _ => ?_)
        refine wpAnyH_take (i := 0) (v := .pointer (some ⟨bG, 1, none⟩)) rfl (by kernel_rfl) (by kernel_rfl) (by kernel_rfl) (fun _ _ _ h => h) (Or.inl ⟨by rfl, ?_⟩) trivial ?_
        · rintro u _
          go_simp
        simp only [Act.put, List.setIfInBounds_toArray]
        refine wpAnyH_take (i := 2) (v := .pointer (some ⟨rB, 0, none⟩)) rfl (by kernel_rfl) (by kernel_rfl) (by kernel_rfl) (fun _ _ _ h => h) (Or.inl ⟨by rfl, ?_⟩) trivial ?_
        · rintro u _
          go_simp
        simp only [Act.put]
        refine wpAnyH_ready (rs := [1, 3]) (by kernel_rfl) (by simp) ?_
        refine AllReadyH.cons rfl (fun K hK => ?_) (AllReadyH.cons rfl (fun K hK => ?_) AllReadyH.nil)
        rw [if_pos (by rfl)]
        go_simp
        refine hK.out _ _ trivial (fun _ => ?_)
        clear hK K
        refine wpAnyH_ready (rs := [3]) (by kernel_rfl) (by simp) ?_
        refine AllReadyH.cons rfl (fun K hK => ?_) AllReadyH.nil
        rw [if_pos (by rfl)]
        go_simp
        refine (l6Window_any rB n c (p6 + 1) ab 3 _ hrd (by omega)).mono ?_
        rintro e w7 ⟨⟨v7, L7, p7, rfl, hg7, hfew, _, _⟩, hb7⟩
        have z7 := hb7.size
        obtain ⟨wa, wc, rfl, hwc, hin⟩ := hg7.rowIn
        have b8 : Below w7.heap.size w7 (w7.alloc (.cells #[.slice wa L7.length wc] 66)) := (Below.refl _ _).alloc (Nat.le_refl _) _
        have tG7 := tGd.span (hb7.span (Nat.le_refl _) (Nat.lt_succ_self _)) (by omega)
        have y7 := tG7.c1
        have y8 := (tG7.keep b8).c1
        refine hK.out _ _ trivial (fun _ => ?_)
        clear hK K
        refine wpAnyH_ready (rs := [4]) (by kernel_rfl) (by simp) ?_
        refine AllReadyH.cons rfl (fun K hK => ?_) AllReadyH.nil
        rw [if_pos (by rfl)]
        go_simp
        refine hK.out _ _ trivial (fun _ => ?_)
        clear hK K
        rotate_left
        rw [if_pos (by rfl)]
        go_simp
        refine (l6Window_any rB n c (p6 + 1) ab 3 _ hrd (by omega)).mono ?_
        rintro e w7 ⟨⟨v7, L7, p7, rfl, hg7, hfew, _, _⟩, hb7⟩
        have z7 := hb7.size
        obtain ⟨wa, wc, rfl, hwc, hin⟩ := hg7.rowIn
        have b8 : Below w7.heap.size w7 (w7.alloc (.cells #[.slice wa L7.length wc] 66)) := (Below.refl _ _).alloc (Nat.le_refl _) _
        have tG7 := tGd.span (hb7.span (Nat.le_refl _) (Nat.lt_succ_self _)) (by omega)
        have y7 := tG7.c1
        have y8 := (tG7.keep b8).c1
        refine hK.out _ _ trivial (fun _ => ?_)
        clear hK K
        refine wpAnyH_ready (rs := [1, 4]) (by kernel_rfl) (by simp) ?_
        refine AllReadyH.cons rfl (fun K hK => ?_) (AllReadyH.cons rfl (fun K hK => ?_) AllReadyH.nil)
        rw [if_pos (by rfl)]
        go_simp
        refine hK.out _ _ trivial (fun _ => ?_)
        clear hK K
        refine wpAnyH_ready (rs := [4]) (by kernel_rfl) (by simp) ?_
        refine AllReadyH.cons rfl (fun K hK => ?_) AllReadyH.nil
        rw [if_pos (by rfl)]
        go_simp
        refine hK.out _ _ trivial (fun _ => ?_)
        clear hK K
        rotate_left
        rw [if_pos (by rfl)]
        go_simp
        refine hK.out _ _ trivial (fun _ => ?_)
        clear hK K
        refine wpAnyH_ready (rs := [1]) (by kernel_rfl) (by simp) ?_
        refine AllReadyH.cons rfl (fun K hK => ?_) AllReadyH.nil
        rw [if_pos (by rfl)]
        go_simp
        refine hK.out _ _ trivial (fun _ => ?_)
        clear hK K
        all_goals
          have gw7 := gwd.agree (hb7.agreeX (.inl (by omega)))
          have tO7 := tOd.span (hb7.span (Nat.le_refl _) (Nat.lt_succ_self _)) (by omega)
          have z8 : (w7.alloc (.cells #[.slice wa L7.length wc] 66)).heap.size = w7.heap.size + 1 := by simp
          have B8' : But rB w (w7.alloc (.cells #[.slice wa L7.length wc] 66)) := (Bd.trans hb7).trans (But.of_below b8)
          have glw := gwd.lt
          refine wpAnyH_ready (rs := [5]) (by kernel_rfl) (by simp) ?_
          refine AllReadyH.cons rfl (fun K hK => ?_) AllReadyH.nil
          rw [if_pos (by rfl)]
          refine wp_append_gw _ _ rfl rfl (gw7.agree (below_agreeX b8)) (by omega) w7.heap.size (WinY.mk (L7.map (·.1)) (.slice wa L7.length wc) w8.drew.heap.size w7.heap.size) ⟨by simp only; omega, by simp only; omega, .inl (by simp only; omega), wa, wc, by simp, by simpa using hwc, hin.agree (below_agree b8)⟩ (fun k e => .inl (World.ownsRow.lt gwd.o0 k e).2) (fun k e => .inl (World.ownsRow.lt gwd.o1 k e).2) rfl (by simp [go_sem]) (by omega) ?_
          intro xa xc w9 hgw9 hgr9
          have hfr : ∀ q, (Value.slice p1 Lw.length d1).ownBlock = some q → glo ≤ q ∧ q ≠ bG := fun q e => ⟨own_from gwd.o1 q e, gwd.x1 q e⟩
          have tG9 := (tG7.keep b8).grown hgr9 (fun e => (hfr _ e.symm).2 rfl)
          have tO9 := (tO7.keep b8).grown hgr9 (fun e => by have := (hfr _ e.symm).1; omega)
          have B9' : But rB w w9 := B8'.grown hgr9 (fun q e => by have := (hfr q e).1; omega)
          have z9 := hgr9.size
          refine hK.out _ _ trivial (fun _ => ?_)
          clear hK K
          have q0 := tG9.c1
          have q1 := tG9.f1
          refine wpAnyH_ready (rs := [6]) (by kernel_rfl) (by simp) ?_
          refine AllReadyH.cons rfl (fun K hK => ?_) AllReadyH.nil
          rw [if_pos (by rfl)]
          go_simp
          refine hK.out _ _ trivial (fun _ => ?_)
          clear hK K
          refine wpAnyH_ready (rs := [7]) (by kernel_rfl) (by simp) ?_
          refine AllReadyH.cons rfl (fun K hK => ?_) AllReadyH.nil
          rw [if_pos (by rfl)]
          go_simp
          refine hK.out _ _ trivial (fun _ => ?_)
          clear hK K
          refine wpAnyH_done (by kernel_rfl) ?_ _
          have HYY : Hid (∃ Y, w9.setCell ⟨bG, 1, none⟩ (.slice xa (Lw.length + 1) xc) = Y) := ⟨_, rfl⟩
          obtain ⟨Y, hYY⟩ := HYY.out
          clear HYY
          have bY : But bG w9 Y := by rw [← hYY]; exact (But.refl _ _).setCell _ _
          have tY : Tri Y bG (.slice p0 nm.length d0) (.slice xa (Lw.length + 1) xc) (.slice p2' sh.length d2) := by rw [← hYY]; exact tG9.set1 _
          have uY := tO9.span (bY.span (Nat.le_refl _) (Nat.lt_succ_self _)) (by omega)
          have gY := hgw9.agree (bY.agreeX (.inr rfl))
          have BY : But rB w Y := by rw [← hYY]; exact B9'.setOut (by omega) 1 _
          rw [hYY]
          clear hYY q0 q1 tG9 tO9 B9' hgw9 bY hgr9 tG7 tO7 gw7 B8' hg7 hb7
          have hfI := hfew.fit (by omega)
          obtain ⟨LX, hLX⟩ : ∃ LX, LX = Lw ++ [WinY.mk (L7.map (·.1)) (.slice wa L7.length wc) w8.drew.heap.size w7.heap.size] := ⟨_, rfl⟩
          have HLX : Hid (LX.map (·.l) = Lw.map (·.l) ++ [L7.map (·.1)] ∧ LX.length = Lw.length + 1) := by rw [hLX]; exact ⟨by simp, by simp⟩
          rw [← hLX] at gY
          clear hLX
          have HX : Hid (GW bG glo Y (.slice p0 nm.length d0) (.slice xa (Lw.length + 1) xc) (nm) (LX) p2' (sh) ∧ But rB w Y ∧ FitG ⟨nm, (LX).map (·.l), sh⟩ ∧ (nm).length ≤ 100) := ⟨gY, BY, ⟨HF.out.1, by rw [HLX.out.1]; exact fitW_snoc HF.out.2.1 (by rw [List.length_map]; omega) hfI, HF.out.2.2⟩, by omega⟩
          obtain ⟨y0, y1, y2, _, _, _⟩ := id tY
          obtain ⟨i0', i1', i2', f0, f1, f2⟩ := id uY
          clear gY tY uY BY tGd tOd gwd Bd hrd hin hfr
          go_wp2_with fail
          obtain ⟨w9, h9⟩ : ∃ w9, ((Y.setCell ⟨w.heap.size, 0, none⟩ (.slice p0 nm.length d0)).setCell ⟨w.heap.size, 1, none⟩ (.slice xa (Lw.length + 1) xc)).setCell ⟨w.heap.size, 2, none⟩ (.slice p2' sh.length d2) = w9 := ⟨_, rfl⟩
          have B9 : But rB w w9 := by rw [← h9]; exact ((HX.out.2.1.setOut (Nat.le_refl _) 0 _).setOut (Nat.le_refl _) 1 _).setOut (Nat.le_refl _) 2 _
          have A9 : But w.heap.size Y w9 := by rw [← h9]; exact (((But.refl _ _).setCell _ _).setCell _ _).setCell _ _
          have n0 : w9.cell? ⟨w.heap.size, 0, none⟩ = some (.slice p0 nm.length d0) := by rw [← h9]; simp [go_sem, i0']
          have n1 : w9.cell? ⟨w.heap.size, 1, none⟩ = some (.slice xa (Lw.length + 1) xc) := by rw [← h9]; simp [go_sem, i1']
          have n2 : w9.cell? ⟨w.heap.size, 2, none⟩ = some (.slice p2' sh.length d2) := by rw [← h9]; simp [go_sem, i2']
          rw [h9]
          clear h9
          exact bodyPost_ret (v := .agg #[.slice p0 nm.length d0, .slice xa (Lw.length + 1) xc, .slice p2' sh.length d2]) (by simp [results, Tryz.results51, go_sem, n0, n1, n2]) rfl ⟨⟨⟨nm, (LX).map (·.l), sh⟩, p0, d0, xa, xc, p2', d2, by simp [HLX.out.2], HX.out.2.2.1, HX.out.2.2.2, HX.out.1.cap, (HX.out.1.agree (A9.agreeX (.inl (by omega)))).rowsAt (by omega)⟩, B9⟩
      by_cases e3 : z = 3
      · subst e3
        have bI : Below w8.heap.size w8 (w8.alloc (.cells #[.string ⟨#[113]⟩] 9)) := (Below.refl _ _).alloc (Nat.le_refl _) _
        have gI := hgw.agree (below_agreeX bI)
        have tI := tG8.keep bI
        have uI := tO8.keep bI
        have BI : But rB w (w8.alloc (.cells #[.string ⟨#[113]⟩] 9)) := B8.trans (But.of_below bI)
        have rI := hr8.below bI
        obtain ⟨y0, y1, y2, y3, y4, y5⟩ := id tG8
        have zI : (w8.alloc (.cells #[.string ⟨#[113]⟩] 9)).heap.size = w8.heap.size + 1 := by simp
        have HI : Hid _ := And.intro tI (And.intro uI (And.intro BI (And.intro rI zI)))
        clear tI uI BI rI bI zI
        go_wp2_with (at_builtin; refine wpList_append_lies _ rfl _ _ 23 rfl glo 9 i0 (.string .empty) 1 16 Tryz.underlying23 hi hz0 hz1 hz2 rfl (by decide) _ _ _ rfl gI.o0 ⟨w8.heap.size, 0, none⟩ 1 1 [.string ⟨#[113]⟩] rfl rfl (one_new w8 _ _) (by simp [Value.oneCell']) (by decide) (by unfold maxLen; omega) (by omega) (by simp; omega) _ rfl ?_; intro ga gc X' hown hgrow hloc hgl; refine hid_hold ?_)
        unfold Hid
        obtain ⟨tI, uI, BI, rI, zI⟩ := HI.out
        clear HI y0 y1 y2 y3 y4 y5
        have hfrom := fun q e => own_from gI.o0 q e
        have g7 := gI.snoc0 hown hgrow (by rcases hloc with q | q; exact .inl q.symm; exact .inr (congrArg some q))
        have hbx := gI.x0
        replace tI := tI.grown hgrow (fun e => hbx _ e.symm rfl)
        replace uI := uI.grown hgrow (fun e => by have := hfrom _ e.symm; omega)
        replace BI := BI.grown hgrow (fun q e => by have := hfrom q e; omega)
        replace rI := rI.grown hgrow (fun q e => by have := hfrom q e; omega)
        have zX := hgrow.size
        clear hown hgrow hloc hfrom gI hbx
        have HXX : Hid (∃ X, X'.setCell ⟨bG, 0, none⟩ (.slice (some ⟨ga, 0, none⟩) (nm.length + 1) gc) = X) := ⟨_, rfl⟩
        obtain ⟨X, hXX⟩ := HXX.out
        clear HXX
        have bX : But bG X' X := by rw [← hXX]; exact (But.refl _ _).setCell _ _
        have tX : Tri X bG (.slice (some ⟨ga, 0, none⟩) (nm.length + 1) gc) (.slice p1 Lw.length d1) (.slice p2' sh.length d2) := by rw [← hXX]; exact tI.set0 _
        have uX := uI.span (bX.span (Nat.le_refl _) (Nat.lt_succ_self _)) (by omega)
        have gX := g7.agree (bX.agreeX (.inr rfl))
        have BX : But rB w X := by rw [← hXX]; exact BI.setOut (by omega) 0 _
        have rX := rI.but bX (by omega)
        have zX2 := bX.size
        obtain ⟨y0, y1, y2, y3, y4, y5⟩ := id tI
        have HXX : Hid (X'.setCell ⟨bG, 0, none⟩ (.slice (some ⟨ga, 0, none⟩) (nm.length + 1) gc) = X) := hXX
        clear tI uI BI rI bX g7 hXX
        clear hgw tG8 tO8 B8 hr8
        go_wp2_with (rw [HXX.out])
        clear y0 y1 y2 y3 y4 y5 HXX
        have hbd : Below X.heap.size X X.drew := (Below.refl _ _).drew
        have hrd := rX.below hbd
        have gwd := gX.agree (below_agreeX hbd)
        have tGd := tX.keep hbd
        have tOd := uX.keep hbd
        have Bd : But rB w X.drew := BX.trans (But.of_below hbd)
        have zd : X.drew.heap.size = X.heap.size := rfl
        have x1d := tGd.c1
        refine wp_region_held_drew (S := fun _ => True) (by kernel_rfl) trivial (fun _ => ?_)
        refine wpAnyH_take (i := 0) (v := .pointer (some ⟨bG, 1, none⟩)) rfl (by kernel_rfl) (by kernel_rfl) (by kernel_rfl) (fun _ _ _ h => h) (Or.inl ⟨by rfl, ?_⟩) trivial ?_
        · rintro u _
          go_simp
        simp only [Act.put, List.setIfInBounds_toArray]
        refine wpAnyH_take (i := 2) (v := .pointer (some ⟨rB, 0, none⟩)) rfl (by kernel_rfl) (by kernel_rfl) (by kernel_rfl) (fun _ _ _ h => h) (Or.inl ⟨by rfl, ?_⟩) trivial ?_
        · rintro u _
          go_simp
        simp only [Act.put]
        refine wpAnyH_ready (rs := [1, 3]) (by kernel_rfl) (by simp) ?_
        refine AllReadyH.cons rfl (fun K hK => ?_) (AllReadyH.cons rfl (fun K hK => ?_) AllReadyH.nil)
        rw [if_pos (by rfl)]
        go_simp
        refine hK.out _ _ trivial (fun _ => ?_)
        clear hK K
        refine wpAnyH_ready (rs := [3]) (by kernel_rfl) (by simp) ?_
        refine AllReadyH.cons rfl (fun K hK => ?_) AllReadyH.nil
        rw [if_pos (by rfl)]
        go_simp
        refine (l6Window_any rB n c (p6 + 1) ab 3 _ hrd (by omega)).mono ?_
        rintro e w7 ⟨⟨v7, L7, p7, rfl, hg7, hfew, _, _⟩, hb7⟩
        have z7 := hb7.size
        obtain ⟨wa, wc, rfl, hwc, hin⟩ := hg7.rowIn
        have b8 : Below w7.heap.size w7 (w7.alloc (.cells #[.slice wa L7.length wc] 66)) := (Below.refl _ _).alloc (Nat.le_refl _) _
        have tG7 := tGd.span (hb7.span (Nat.le_refl _) (Nat.lt_succ_self _)) (by omega)
        have y7 := tG7.c1
        have y8 := (tG7.keep b8).c1
        refine hK.out _ _ trivial (fun _ => ?_)
        clear hK K
        refine wpAnyH_ready (rs := [4]) (by kernel_rfl) (by simp) ?_
        refine AllReadyH.cons rfl (fun K hK => ?_) AllReadyH.nil
        rw [if_pos (by rfl)]
        go_simp
        refine hK.out _ _ trivial (fun _ => ?_)
        clear hK K
        rotate_left
        rw [if_pos (by rfl)]
        go_simp
        refine (l6Window_any rB n c (p6 + 1) ab 3 _ hrd (by omega)).mono ?_
        rintro e w7 ⟨⟨v7, L7, p7, rfl, hg7, hfew, _, _⟩, hb7⟩
        have z7 := hb7.size
        obtain ⟨wa, wc, rfl, hwc, hin⟩ := hg7.rowIn
        have b8 : Below w7.heap.size w7 (w7.alloc (.cells #[.slice wa L7.length wc] 66)) := (Below.refl _ _).alloc (Nat.le_refl _) _
        have tG7 := tGd.span (hb7.span (Nat.le_refl _) (Nat.lt_succ_self _)) (by omega)
        have y7 := tG7.c1
        have y8 := (tG7.keep b8).c1
        refine hK.out _ _ trivial (fun _ => ?_)
        clear hK K
        refine wpAnyH_ready (rs := [1, 4]) (by kernel_rfl) (by simp) ?_
        refine AllReadyH.cons rfl (fun K hK => ?_) (AllReadyH.cons rfl (fun K hK => ?_) AllReadyH.nil)
        rw [if_pos (by rfl)]
        go_simp
        refine hK.out _ _ trivial (fun _ => ?_)
        clear hK K
        refine wpAnyH_ready (rs := [4]) (by kernel_rfl) (by simp) ?_
        refine AllReadyH.cons rfl (fun K hK => ?_) AllReadyH.nil
        rw [if_pos (by rfl)]
        go_simp
        refine hK.out _ _ trivial (fun _ => ?_)
        clear hK K
        rotate_left
        rw [if_pos (by rfl)]
        go_simp
        refine hK.out _ _ trivial (fun _ => ?_)
        clear hK K
        refine wpAnyH_ready (rs := [1]) (by kernel_rfl) (by simp) ?_
        refine AllReadyH.cons rfl (fun K hK => ?_) AllReadyH.nil
        rw [if_pos (by rfl)]
        go_simp
        refine hK.out _ _ trivial (fun _ => ?_)
        clear hK K
        all_goals
          have gw7 := gwd.agree (hb7.agreeX (.inl (by omega)))
          have tO7 := tOd.span (hb7.span (Nat.le_refl _) (Nat.lt_succ_self _)) (by omega)
          have z8 : (w7.alloc (.cells #[.slice wa L7.length wc] 66)).heap.size = w7.heap.size + 1 := by simp
          have B8' : But rB w (w7.alloc (.cells #[.slice wa L7.length wc] 66)) := (Bd.trans hb7).trans (But.of_below b8)
          have glw := gwd.lt
          refine wpAnyH_ready (rs := [5]) (by kernel_rfl) (by simp) ?_
          refine AllReadyH.cons rfl (fun K hK => ?_) AllReadyH.nil
          rw [if_pos (by rfl)]
          refine wp_append_gw _ _ rfl rfl (gw7.agree (below_agreeX b8)) (by omega) w7.heap.size (WinY.mk (L7.map (·.1)) (.slice wa L7.length wc) X.drew.heap.size w7.heap.size) ⟨by simp only; omega, by simp only; omega, .inl (by simp only; omega), wa, wc, by simp, by simpa using hwc, hin.agree (below_agree b8)⟩ (fun k e => .inl (World.ownsRow.lt gwd.o0 k e).2) (fun k e => .inl (World.ownsRow.lt gwd.o1 k e).2) rfl (by simp [go_sem]) (by omega) ?_
          intro xa xc w9 hgw9 hgr9
          have hfr : ∀ q, (Value.slice p1 Lw.length d1).ownBlock = some q → glo ≤ q ∧ q ≠ bG := fun q e => ⟨own_from gwd.o1 q e, gwd.x1 q e⟩
          have tG9 := (tG7.keep b8).grown hgr9 (fun e => (hfr _ e.symm).2 rfl)
          have tO9 := (tO7.keep b8).grown hgr9 (fun e => by have := (hfr _ e.symm).1; omega)
          have B9' : But rB w w9 := B8'.grown hgr9 (fun q e => by have := (hfr q e).1; omega)
          have z9 := hgr9.size
          refine hK.out _ _ trivial (fun _ => ?_)
          clear hK K
          have q0 := tG9.c1
          have q1 := tG9.f1
          refine wpAnyH_ready (rs := [6]) (by kernel_rfl) (by simp) ?_
          refine AllReadyH.cons rfl (fun K hK => ?_) AllReadyH.nil
          rw [if_pos (by rfl)]
          go_simp
          refine hK.out _ _ trivial (fun _ => ?_)
          clear hK K
          refine wpAnyH_ready (rs := [7]) (by kernel_rfl) (by simp) ?_
          refine AllReadyH.cons rfl (fun K hK => ?_) AllReadyH.nil
          rw [if_pos (by rfl)]
          go_simp
          refine hK.out _ _ trivial (fun _ => ?_)
          clear hK K
          refine wpAnyH_done (by kernel_rfl) ?_ _
          have HYY : Hid (∃ Y, w9.setCell ⟨bG, 1, none⟩ (.slice xa (Lw.length + 1) xc) = Y) := ⟨_, rfl⟩
          obtain ⟨Y, hYY⟩ := HYY.out
          clear HYY
          have bY : But bG w9 Y := by rw [← hYY]; exact (But.refl _ _).setCell _ _
          have tY : Tri Y bG (.slice (some ⟨ga, 0, none⟩) (nm.length + 1) gc) (.slice xa (Lw.length + 1) xc) (.slice p2' sh.length d2) := by rw [← hYY]; exact tG9.set1 _
          have uY := tO9.span (bY.span (Nat.le_refl _) (Nat.lt_succ_self _)) (by omega)
          have gY := hgw9.agree (bY.agreeX (.inr rfl))
          have BY : But rB w Y := by rw [← hYY]; exact B9'.setOut (by omega) 1 _
          rw [hYY]
          clear hYY q0 q1 tG9 tO9 B9' hgw9 bY hgr9 tG7 tO7 gw7 B8' hg7 hb7
          have hfI := hfew.fit (by omega)
          obtain ⟨LX, hLX⟩ : ∃ LX, LX = Lw ++ [WinY.mk (L7.map (·.1)) (.slice wa L7.length wc) X.drew.heap.size w7.heap.size] := ⟨_, rfl⟩
          have HLX : Hid (LX.map (·.l) = Lw.map (·.l) ++ [L7.map (·.1)] ∧ LX.length = Lw.length + 1) := by rw [hLX]; exact ⟨by simp, by simp⟩
          rw [← hLX] at gY
          clear hLX
          have HX : Hid (GW bG glo Y (.slice (some ⟨ga, 0, none⟩) (nm.length + 1) gc) (.slice xa (Lw.length + 1) xc) (nm ++ [(⟨#[113]⟩ : ByteArray)]) (LX) p2' (sh) ∧ But rB w Y ∧ FitG ⟨nm ++ [(⟨#[113]⟩ : ByteArray)], (LX).map (·.l), sh⟩ ∧ (nm ++ [(⟨#[113]⟩ : ByteArray)]).length ≤ 100) := ⟨gY, BY, ⟨fitS_snoc HF.out.1 (by omega) (by decide), by rw [HLX.out.1]; exact fitW_snoc HF.out.2.1 (by rw [List.length_map]; omega) hfI, HF.out.2.2⟩, by simp; omega⟩
          obtain ⟨y0, y1, y2, _, _, _⟩ := id tY
          obtain ⟨i0', i1', i2', f0, f1, f2⟩ := id uY
          clear gY tY uY BY tGd tOd gwd Bd hrd hin hfr
          go_wp2_with fail
          obtain ⟨w9, h9⟩ : ∃ w9, ((Y.setCell ⟨w.heap.size, 0, none⟩ (.slice (some ⟨ga, 0, none⟩) (nm.length + 1) gc)).setCell ⟨w.heap.size, 1, none⟩ (.slice xa (Lw.length + 1) xc)).setCell ⟨w.heap.size, 2, none⟩ (.slice p2' sh.length d2) = w9 := ⟨_, rfl⟩
          have B9 : But rB w w9 := by rw [← h9]; exact ((HX.out.2.1.setOut (Nat.le_refl _) 0 _).setOut (Nat.le_refl _) 1 _).setOut (Nat.le_refl _) 2 _
          have A9 : But w.heap.size Y w9 := by rw [← h9]; exact (((But.refl _ _).setCell _ _).setCell _ _).setCell _ _
          have n0 : w9.cell? ⟨w.heap.size, 0, none⟩ = some (.slice (some ⟨ga, 0, none⟩) (nm.length + 1) gc) := by rw [← h9]; simp [go_sem, i0']
          have n1 : w9.cell? ⟨w.heap.size, 1, none⟩ = some (.slice xa (Lw.length + 1) xc) := by rw [← h9]; simp [go_sem, i1']
          have n2 : w9.cell? ⟨w.heap.size, 2, none⟩ = some (.slice p2' sh.length d2) := by rw [← h9]; simp [go_sem, i2']
          rw [h9]
          clear h9
          exact bodyPost_ret (v := .agg #[.slice (some ⟨ga, 0, none⟩) (nm.length + 1) gc, .slice xa (Lw.length + 1) xc, .slice p2' sh.length d2]) (by simp [results, Tryz.results51, go_sem, n0, n1, n2]) rfl ⟨⟨⟨nm ++ [(⟨#[113]⟩ : ByteArray)], (LX).map (·.l), sh⟩, (some ⟨ga, 0, none⟩), gc, xa, xc, p2', d2, by simp [HLX.out.2], HX.out.2.2.1, HX.out.2.2.2, HX.out.1.cap, (HX.out.1.agree (A9.agreeX (.inl (by omega)))).rowsAt (by omega)⟩, B9⟩
      have HX : Hid (GW bG glo w8 (.slice p0 nm.length d0) (.slice p1 Lw.length d1) (nm) (Lw) p2' (sh) ∧ But rB w w8 ∧ FitG ⟨nm, (Lw).map (·.l), sh⟩ ∧ (nm).length ≤ 100) := ⟨hgw, B8, ⟨HF.out.1, HF.out.2.1, HF.out.2.2⟩, by omega⟩
      obtain ⟨y0, y1, y2, _, _, _⟩ := id tG8
      obtain ⟨i0', i1', i2', f0, f1, f2⟩ := id tO8
      clear hgw tG8 tO8 B8 hr8
      go_wp2_with fail
      obtain ⟨w9, h9⟩ : ∃ w9, ((w8.setCell ⟨w.heap.size, 0, none⟩ (.slice p0 nm.length d0)).setCell ⟨w.heap.size, 1, none⟩ (.slice p1 Lw.length d1)).setCell ⟨w.heap.size, 2, none⟩ (.slice p2' sh.length d2) = w9 := ⟨_, rfl⟩
      have B9 : But rB w w9 := by rw [← h9]; exact ((HX.out.2.1.setOut (Nat.le_refl _) 0 _).setOut (Nat.le_refl _) 1 _).setOut (Nat.le_refl _) 2 _
      have A9 : But w.heap.size w8 w9 := by rw [← h9]; exact (((But.refl _ _).setCell _ _).setCell _ _).setCell _ _
      have n0 : w9.cell? ⟨w.heap.size, 0, none⟩ = some (.slice p0 nm.length d0) := by rw [← h9]; simp [go_sem, i0']
      have n1 : w9.cell? ⟨w.heap.size, 1, none⟩ = some (.slice p1 Lw.length d1) := by rw [← h9]; simp [go_sem, i1']
      have n2 : w9.cell? ⟨w.heap.size, 2, none⟩ = some (.slice p2' sh.length d2) := by rw [← h9]; simp [go_sem, i2']
      rw [h9]
      clear h9
      exact bodyPost_ret (v := .agg #[.slice p0 nm.length d0, .slice p1 Lw.length d1, .slice p2' sh.length d2]) (by simp [results, Tryz.results51, go_sem, n0, n1, n2]) rfl ⟨⟨⟨nm, (Lw).map (·.l), sh⟩, p0, d0, p1, d1, p2', d2, by simp, HX.out.2.2.1, HX.out.2.2.2, HX.out.1.cap, (HX.out.1.agree (A9.agreeX (.inl (by omega)))).rowsAt (by omega)⟩, B9⟩

end Go.Proofs.YtpfhegengmlkmaaGreatDoor
