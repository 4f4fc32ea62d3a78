/- Texts of this claim, one behind the other. -/
import Derived.Test.YtpfhegengmlkmaaGreatDoorZT29
import Derived.Test.YtpfhegengmlkmaaGreatDoorZT45
import Derived.Test.YtpfhegengmlkmaaGreatDoorZT46
import Derived.Test.YtpfhegengmlkmaaGreatDoorZT48
import Derived.Test.YtpfhegengmlkmaaGreatDoorZT49
namespace Go.Proofs.YtpfhegengmlkmaaGreatDoor
open Go.RowKit Go.BigFrame
set_option maxRecDepth 100000

theorem bsParts_cal {R : ResG} {u : World} (h : RowsR R u) {out : List Int} (hc : ChP R.g.wins out) (hv : R.sv = valsM R.g.wins out) (hj : JoinsTo R.g.wins out out.length R.ss) : Calls Tryz.prog 13 #[R.gv, R.wv] u fun e w' => e = .returned (.bool true) ∧ Below u.heap.size u w' := by
  have hp := parts_of hc hj
  rw [← hv] at hp
  have z := bsParts_any R.s0 R.s1 R.s2 R.s3 R.s4 R.g.ins.length R.d0 R.d1 R.g.shown.length R.d2 R.d3 R.d4 R.g.wins R.sv R.ss _ u h.nice.wins h.nice.items h.st h.r1 h.r3 h.r4 hp
  unfold ResG.gv ResG.wv
  rw [h.len]
  exact z

set_option maxHeartbeats 12800000 in
theorem lawTop_any (ab : Option Addr) (n c : Nat) (w : World) (h : Bytes w ab n c) (hn : n ≤ maxLen) (het : ErrT w) :
    Calls Tryz.prog 3 #[.slice ab n c] w fun e w' => e = .returned (.bool true) ∧ Below w.heap.size w w' := by
  unfold maxLen at hn
  go_enter Tryz.func3, Tryz.ntmps3
  by_cases hbig : 1048576 < n
  · have hbig' : decide ((1048576 : Int) < (n : Int)) = true := by simp; omega
    go_wp2_with fail
    go_ret
    exact ⟨rfl, Below.refl _ _⟩
  have hbig' : decide ((1048576 : Int) < (n : Int)) = false := by simp; omega
  go_wp2_with fail
  refine (drawPlay_rows ab n c _ h).mono ?_
  rintro e w1 ⟨⟨ia, ic, ins, fa, fc, fs, rfl, hi1, hi5, hs8, hic, hic2, hri, hfc, h61, hff, hrf⟩, B⟩
  replace het := het.below B
  have hil : ins.length ≤ 1048576 := by omega
  clear h hbig hbig'
  go_wp2_with fail
  refine (implGN_any ia ic ins w1 hil hic hic2 hri hs8).mono ?_
  rintro e w2 ⟨hE, b2⟩
  have z2 := b2.size
  replace het := het.below b2
  replace hrf := hrf.below b2
  replace hri := hri.below b2
  have z1 := B.size
  replace B : Below w.heap.size w w2 := B.trans (b2.mono B.size)
  rcases hE.start with ⟨s0, e0, s1, e1, s2, e2, Lw, rfl, hN, hmap, hsg, hcap⟩ | ⟨rfl, hN⟩
  · have HIN : Hid (IsN ins ins true) := hN
    clear hE hN b2
    have bA : Below w2.heap.size w2 (w2.alloc (.cells #[.slice s0 ins.length e0, .slice s1 Lw.length e1, .slice s2 0 e2] 30)) := (Below.refl _ _).alloc (Nat.le_refl _) _
    have tA := tri_new w2 (.slice s0 ins.length e0) (.slice s1 Lw.length e1) (.slice s2 0 e2) 30
    have zA : (w2.alloc (.cells #[.slice s0 ins.length e0, .slice s1 Lw.length e1, .slice s2 0 e2] 30)).heap.size = w2.heap.size + 1 := by simp
    have hWG : PlyW (w2.heap.size + 1) (w2.alloc (.cells #[.slice s0 ins.length e0, .slice s1 Lw.length e1, .slice s2 0 e2] 30)) w2.heap.size w1.heap.size w2.heap.size (newG ins) Lw s0 s1 s2 e0 e1 e2 (.slice none 0 0) (.slice none 0 0) [] [] :=
      { tG := tA, map := hmap, nice := newG_nice HIN.out, sg := hsg.below bA, glt := by omega, gbox := .inr (Nat.le_refl _), bB := Nat.lt_succ_self _, BU := by omega, osh := World.ownsRow_nil _ _ _ _, oco := World.ownsRow_nil _ _ _ _, at_ := (fun p hp => by simp at hp), dis := List.Pairwise.nil, sfar := (fun p hp => by simp at hp), cfar := (fun p hp => by simp at hp), sgf := (fun k e => by cases e), cgf := (fun k e => by cases e) }
    have hriA := hri.below bA
    have BA : Below w.heap.size w (w2.alloc (.cells #[.slice s0 ins.length e0, .slice s1 Lw.length e1, .slice s2 0 e2] 30)) := B.trans (bA.mono B.size)
    have HB2 : Hid (Below w2.heap.size w2 (w2.alloc (.cells #[.slice s0 ins.length e0, .slice s1 Lw.length e1, .slice s2 0 e2] 30))) := bA
    have hW2 : w2.heap.size < (w2.alloc (.cells #[.slice s0 ins.length e0, .slice s1 Lw.length e1, .slice s2 0 e2] 30)).heap.size := by simp
    clear tA hsg hmap hri bA
    go_wp2_with fail
    generalize w2.alloc (.cells #[.slice s0 ins.length e0, .slice s1 Lw.length e1, .slice s2 0 e2] 30) = W2 at *
    refine (specGN_any ia ic ins W2 hil hriA hs8).mono ?_
    rintro e w3 ⟨hE, b3⟩
    have z3 := b3.size
    rcases hE.start with ⟨t0, f0, t1, f1, t2, f2, Lv, rfl, hN, hmap, hsg, hcapH⟩ | ⟨rfl, hN⟩
    · clear hE hN
      replace hWG := hWG.keep b3
      have bA3 : Below w2.heap.size w2 w3 := HB2.out.trans (b3.mono HB2.out.size)
      have B3 : Below w.heap.size w w3 := BA.trans (b3.mono BA.size)
      have bA : Below w3.heap.size w3 (w3.alloc (.cells #[.slice t0 ins.length f0, .slice t1 Lv.length f1, .slice t2 0 f2] 30)) := (Below.refl _ _).alloc (Nat.le_refl _) _
      have tA := tri_new w3 (.slice t0 ins.length f0) (.slice t1 Lv.length f1) (.slice t2 0 f2) 30
      have zB : (w3.alloc (.cells #[.slice t0 ins.length f0, .slice t1 Lv.length f1, .slice t2 0 f2] 30)).heap.size = w3.heap.size + 1 := by simp
      have hWH : PlyW (w3.heap.size + 1) (w3.alloc (.cells #[.slice t0 ins.length f0, .slice t1 Lv.length f1, .slice t2 0 f2] 30)) w3.heap.size W2.heap.size w3.heap.size (newG ins) Lv t0 t1 t2 f0 f1 f2 (.slice none 0 0) (.slice none 0 0) [] [] :=
        { tG := tA, map := hmap, nice := newG_nice HIN.out, sg := hsg.below bA, glt := by omega, gbox := .inr (Nat.le_refl _), bB := Nat.lt_succ_self _, BU := by omega, osh := World.ownsRow_nil _ _ _ _, oco := World.ownsRow_nil _ _ _ _, at_ := (fun p hp => by simp at hp), dis := List.Pairwise.nil, sfar := (fun p hp => by simp at hp), cfar := (fun p hp => by simp at hp), sgf := (fun k e => by cases e), cgf := (fun k e => by cases e) }
      obtain ⟨x0, x1, x2, _, _, _⟩ := id hWG.tG
      replace x0 : w3.cell? ⟨w2.heap.size, 0, none⟩ = some (.slice s0 ins.length e0) := x0
      replace x2 : w3.cell? ⟨w2.heap.size, 2, none⟩ = some (.slice s2 0 e2) := x2
      have hbG3 : w2.heap.size < w3.heap.size := block_lt_of_cell x0
      replace hWG := hWG.keep bA
      have bA4 : Below w2.heap.size w2 (w3.alloc (.cells #[.slice t0 ins.length f0, .slice t1 Lv.length f1, .slice t2 0 f2] 30)) := bA3.trans (bA.mono bA3.size)
      have B4 : Below w.heap.size w (w3.alloc (.cells #[.slice t0 ins.length f0, .slice t1 Lv.length f1, .slice t2 0 f2] 30)) := B3.trans (bA.mono B3.size)
      have HCB : Hid (Calls Tryz.prog 9 #[.agg #[.slice s0 ins.length e0, .slice s1 Lw.length e1, .slice s2 0 e2], .agg #[.slice t0 ins.length f0, .slice t1 Lv.length f1, .slice t2 0 f2]] (w3.alloc (.cells #[.slice t0 ins.length f0, .slice t1 Lv.length f1, .slice t2 0 f2] 30)) fun e w' => e = .returned (.bool true) ∧ Below (w3.alloc (.cells #[.slice t0 ins.length f0, .slice t1 Lv.length f1, .slice t2 0 f2] 30)).heap.size (w3.alloc (.cells #[.slice t0 ins.length f0, .slice t1 Lv.length f1, .slice t2 0 f2] 30)) w') := by
        obtain ⟨l1, r0, r1, r2⟩ := hWG.rows
        obtain ⟨l2, q0, q1, q2⟩ := hWH.rows
        exact bsGather_len s0 s1 s2 t0 t1 t2 e0 e1 e2 f0 f1 f2 Lw.length Lv.length (newG ins) _ hWG.nice.fit l1 l2 r0 r1 r2 q0 q1 q2
      clear tA hsg hmap B3 BA bA hriA b3 zA bA3 HB2
      go_wp2_with fail
      refine Calls.mono HCB.out ?_
      rintro e w4 ⟨rfl, b4⟩
      clear HCB x0 x1 x2
      generalize w3.alloc (.cells #[.slice t0 ins.length f0, .slice t1 Lv.length f1, .slice t2 0 f2] 30) = W3 at *
      generalize w3.heap.size = bH at *
      replace hWG := hWG.keep b4
      replace hWH := hWH.keep b4
      replace B4 := B4.trans (b4.mono B4.size)
      have hz4 := b4.size
      replace bA4 := bA4.trans (b4.mono bA4.size)
      have HTOP : Hid (TopP (newG ins)) := newG_top HIN.out
      clear b4
      go_wp2_with fail
      have hzw := B4.size
      go_loopw [9] (fun iv wr => ∃ (k glo ghi hlo hhi : Nat) (g : GatL) (Lw Lv : List WinY) (a0 a1 a2 b0 b1 b2 : Option Addr) (d0 d1 d2 c0 c1 c2 : Nat), k ≤ 40 ∧ iv = .int .i64 k ∧ PlyW (w2.heap.size + 1) wr w2.heap.size glo ghi g Lw a0 a1 a2 d0 d1 d2 (.slice none 0 0) (.slice none 0 0) [] [] ∧ PlyW (bH + 1) wr bH hlo hhi g Lv b0 b1 b2 c0 c1 c2 (.slice none 0 0) (.slice none 0 0) [] [] ∧ (bH < glo ∨ ghi ≤ bH) ∧ (w2.heap.size < hlo ∨ hhi ≤ w2.heap.size) ∧ (g.ins.length ≤ d0 ∧ d0 ≤ maxLen) ∧ g.shown.length ≤ d2 ∧ Hid (TopP g) ∧ Below w2.heap.size w2 wr) (fun iv _ => 40 - (intOf iv).toNat)
      case atStart => exact ⟨0, w1.heap.size, w2.heap.size, W2.heap.size, bH, newG ins, Lw, Lv, s0, s1, s2, t0, t1, t2, e0, e1, e2, f0, f1, f2, by omega, rfl, hWG, hWH, .inr (by omega), .inl (by omega), hcap, Nat.zero_le _, HTOP, bA4⟩
      case round =>
        clear hWG hWH hcap hcapH HTOP bA4 B4 hzw hz4
        obtain ⟨k, glo, ghi, hlo, hhi, g, Lw', Lv', p0, p1, p2, r0, r1, r2, d0, d1, d2, c0, c1, c2, hk, rfl, hWG, hWH, hHg, hGh, hcap, hcs, HTOP, hb⟩ := hrel
        have BW := B.trans (hb.mono B.size)
        by_cases hlt : k < fs.length
        · by_cases h40 : k < 40
          · obtain ⟨bf, of, rfl, hbf, q0', q1', vq, q2', ⟨fa', fc', rfl, hfc', hrow⟩⟩ := (hrf.below hb) k hlt
            have k0' : (0 : Int) ≤ (k : Int) := by omega
            have k1' : (k : Int) < (fs.length : Int) := by omega
            have hfk := hff.2 k hlt
            have h40' : decide ((k : Int) < 40) = true := decide_eq_true (by omega)
            go_wp2_with fail
            have hbl : w2.heap.size < wr.heap.size := block_lt_of_cell hWG.tG.c0
            have hbH : bH < wr.heap.size := block_lt_of_cell hWH.tG.c0
            have HSS : Hid (∀ u : World, Below wr.heap.size wr u → u.cell? ⟨w2.heap.size, 0, none⟩ = some (.slice p0 g.ins.length d0) ∧ u.cell? ⟨w2.heap.size, 1, none⟩ = some (.slice p1 Lw'.length d1) ∧ u.cell? ⟨w2.heap.size, 2, none⟩ = some (.slice p2 g.shown.length d2) ∧ u.cell? ⟨bf, of + k * 3, none⟩ = some (.int .i64 fs[k].1) ∧ u.cell? ⟨bf, of + k * 3 + 1, none⟩ = some (.int .i64 fs[k].2.1) ∧ u.cell? ⟨bf, of + k * 3 + 2, none⟩ = some (.slice fa' fs[k].2.2.length fc')) := fun u hu => ⟨cell_on hu hbl hWG.tG.c0, cell_on hu hbl hWG.tG.c1, cell_on hu hbl hWG.tG.c2, cell_on hu hbf q0', cell_on hu hbf q1', cell_on hu hbf q2'⟩
            have HSH : Hid (∀ u : World, Below wr.heap.size wr u → u.cell? ⟨bH, 0, none⟩ = some (.slice r0 g.ins.length c0) ∧ u.cell? ⟨bH, 1, none⟩ = some (.slice r1 Lv'.length c1) ∧ u.cell? ⟨bH, 2, none⟩ = some (.slice r2 g.shown.length c2) ∧ u.cell? ⟨bf, of + k * 3, none⟩ = some (.int .i64 fs[k].1) ∧ u.cell? ⟨bf, of + k * 3 + 1, none⟩ = some (.int .i64 fs[k].2.1) ∧ u.cell? ⟨bf, of + k * 3 + 2, none⟩ = some (.slice fa' fs[k].2.2.length fc')) := fun u hu => ⟨cell_on hu hbH hWH.tG.c0, cell_on hu hbH hWH.tG.c1, cell_on hu hbH hWH.tG.c2, cell_on hu hbf q0', cell_on hu hbf q1', cell_on hu hbf q2'⟩
            obtain ⟨hLl, s0', s1', s2'⟩ := hWG.rows
            obtain ⟨hLv, t0', t1', t2'⟩ := hWH.rows
            have hil' : g.ins.length ≤ 1048576 := by have := hWG.nice.ins; omega
            have HLL : Hid (Lw'.length = g.wins.length ∧ Lv'.length = g.wins.length) := ⟨hLl, hLv⟩
            have hetW := het.below hb
            clear hLl hLv q0' q1' q2'
            refine wp_region_inv (by kernel_rfl) (by kernel_rfl) (fun f a u => ∃ (R : ResG) (b10 b11 : Nat) (v11 v12 v13 v32 v33 v34 v35 v36 v37 v38 v39 v40 v41 : Value), a = { tmps := #[Value.slice ab n c, undef, u2, Value.slice ia ins.length ic, Value.slice (some { block := bf, off := of }) fs.length fc, Value.pointer (some { block := w2.heap.size, off := 0 }), Value.bool true, Value.pointer (some { block := bH, off := 0 }), Value.bool true, Value.int IntKind.i64 (k : Int), v11, v12, v13, u13, u14, u15, Value.slice ab n c, Value.int IntKind.i64 (n : Int), Value.bool false, Value.tuple #[Value.slice ia ins.length ic, Value.slice (some { block := bf, off := of }) fs.length fc], Value.slice ab n c, Value.tuple #[Value.slice ia ins.length ic, Value.slice (some { block := bf, off := of }) fs.length fc], Value.slice ia ins.length ic, Value.slice (some { block := bf, off := of }) fs.length fc, Value.tuple #[Value.agg #[Value.slice s0 ins.length e0, Value.slice s1 Lw.length e1, Value.slice s2 0 e2], Value.bool true], Value.slice ia ins.length ic, Value.tuple #[Value.agg #[Value.slice s0 ins.length e0, Value.slice s1 Lw.length e1, Value.slice s2 0 e2], Value.bool true], Value.agg #[Value.slice s0 ins.length e0, Value.slice s1 Lw.length e1, Value.slice s2 0 e2], Value.bool true, Value.tuple #[Value.agg #[Value.slice t0 ins.length f0, Value.slice t1 Lv.length f1, Value.slice t2 0 f2], Value.bool true], Value.slice ia ins.length ic, Value.tuple #[Value.agg #[Value.slice t0 ins.length f0, Value.slice t1 Lv.length f1, Value.slice t2 0 f2], Value.bool true], Value.agg #[Value.slice t0 ins.length f0, Value.slice t1 Lv.length f1, Value.slice t2 0 f2], Value.bool true, Value.bool true, Value.bool true, Value.bool false, Value.bool false, Value.agg #[Value.slice s0 ins.length e0, Value.slice s1 Lw.length e1, Value.slice s2 0 e2], Value.agg #[Value.slice t0 ins.length f0, Value.slice t1 Lv.length f1, Value.slice t2 0 f2], Value.bool true, Value.bool false, Value.bool false, Value.bool true, Value.bool true, Value.int IntKind.i64 (k : Int), Value.slice (some { block := bf, off := of }) fs.length fc, Value.int IntKind.i64 (fs.length : Int), Value.bool true, Value.bool true, Value.bool true, Value.int IntKind.i64 (k : Int), Value.bool true, Value.bool true, u54, u55, v32, v33, v34, v35, v36, v37, v38, v39, v40, v41, u66, u67, u68, u69, u70, u71, u72, u73, u74, u75, u76, u77, u78, u79, u80, u81, u82, u83, u84, u85, u86, u87, u88, u89, u90, u91, u92, u93, u94, u95, u96, u97, u98, u99, u100, u101, u102, u103, u104, u105, u106, u107, u108, u109, u110, u111, u112, u113, u114, u115, u116], defers := [] } ∧ Fy (CalI g fs[k].1 fs[k].2.1 fs[k].2.2) wr (.agg #[.slice p0 g.ins.length d0, .slice p1 Lw'.length d1, .slice p2 g.shown.length d2]) (.slice (some ⟨bf, of, none⟩) fs.length fc) (.int .i64 (k : Int)) (.pointer (some ⟨bf, of + k * 3, none⟩)) (.agg #[.int .i64 fs[k].1, .int .i64 fs[k].2.1, .slice fa' fs[k].2.2.length fc']) f R b10 b11 v11 v12 v13 v32 v33 v34 v35 v36 v37 v38 v39 v40 v41 u) ?start ?step ?fin
            case start =>
              refine ⟨⟨⟨[], [], []⟩, [], [], [], 0, none, none, none, none, none, 0, 0, 0, 0, 0, 0, 0, 0, 0⟩, 0, 0, _, _, _, _, _, _, _, _, _, _, _, _, _, rfl, ?_⟩
              exact { bel := (Below.refl _ _).drew, k0 := (fun h => by cases h), k1 := (fun h => by cases h), k2 := (fun h => by cases h), k3 := (fun h => by cases h), k4 := (fun h => by cases h), k5 := (fun h => by cases h), k6 := (fun h => by cases h), k7 := (fun h => by cases h), k8 := (fun h => by cases h), k9 := (fun h => by cases h), k10 := (fun h => by cases h), k11 := (fun h => by cases h), k14 := (fun h => by cases h), ne := (fun h => by cases h), c6 := (fun h => by cases h), c7 := (fun h => by cases h), c8 := (fun h => by cases h), c9 := (fun h => by cases h), c12 := (fun h => by cases h), c13 := (fun h => by cases h), c14 := (fun h => by cases h) }
            case step =>
              rintro f a u j ⟨R, b10, b11, v11, v12, v13, v32, v33, v34, v35, v36, v37, v38, v39, v40, v41, rfl, hF⟩ hj hfj hw
              obtain ⟨z0, z1, z2, z3, z4, z5⟩ := HSS.out _ hF.bel
              have hj' : j < 15 := hj
              have hC : ∀ R u u', CalI g fs[k].1 fs[k].2.1 fs[k].2.2 R u → Below u.heap.size u u' → CalI g fs[k].1 fs[k].2.1 fs[k].2.2 R u' := fun R u u' h hb => h.below hb
              rcases (by omega : j = 0 ∨ j = 1 ∨ j = 2 ∨ j = 3 ∨ j = 4 ∨ j = 5 ∨ j = 6 ∨ j = 7 ∨ j = 8 ∨ j = 9 ∨ j = 10 ∨ j = 11 ∨ j = 12 ∨ j = 13 ∨ j = 14) with rfl | rfl | rfl | rfl | rfl | rfl | rfl | rfl | rfl | rfl | rfl | rfl | rfl | rfl | rfl
              · refine wpOp_wanted rfl (by kernel_rfl) ?_
                go_simp
                exact ⟨R, b10, b11, _, _, _, _, _, _, _, _, _, _, _, _, _, ⟨rfl, rfl, rfl, rfl, rfl, rfl, rfl, rfl, rfl, rfl, rfl, rfl, rfl⟩, { hF with k0 := fun _ => rfl }⟩
              · refine wpOp_wanted rfl (by kernel_rfl) ?_
                go_simp
                exact ⟨R, b10, b11, _, _, _, _, _, _, _, _, _, _, _, _, _, ⟨rfl, rfl, rfl, rfl, rfl, rfl, rfl, rfl, rfl, rfl, rfl, rfl, rfl⟩, { hF with k1 := fun _ => rfl }⟩
              · refine wpOp_wanted rfl (by kernel_rfl) ?_
                go_simp
                exact ⟨R, b10, b11, _, _, _, _, _, _, _, _, _, _, _, _, _, ⟨rfl, rfl, rfl, rfl, rfl, rfl, rfl, rfl, rfl, rfl, rfl, rfl, rfl⟩, { hF with k2 := fun _ => rfl }⟩
              · have h1 : f 1 = true := hw 1 (of_decide_eq_true (by kernel_rfl))
                have h2 : f 2 = true := hw 2 (of_decide_eq_true (by kernel_rfl))
                obtain rfl := hF.k1 h1
                obtain rfl := hF.k2 h2
                refine wpOp_wanted rfl (by kernel_rfl) ?_
                go_simp
                exact ⟨R, b10, b11, _, _, _, _, _, _, _, _, _, _, _, _, _, ⟨rfl, rfl, rfl, rfl, rfl, rfl, rfl, rfl, rfl, rfl, rfl, rfl, rfl⟩, { hF with k3 := fun _ => rfl }⟩
              · have h3 : f 3 = true := hw 3 (of_decide_eq_true (by kernel_rfl))
                obtain rfl := hF.k3 h3
                refine wpOp_wanted rfl (by kernel_rfl) ?_
                go_simp
                exact ⟨R, b10, b11, _, _, _, _, _, _, _, _, _, _, _, _, _, ⟨rfl, rfl, rfl, rfl, rfl, rfl, rfl, rfl, rfl, rfl, rfl, rfl, rfl⟩, { hF with k4 := fun _ => rfl }⟩
              · have h0 : f 0 = true := hw 0 (of_decide_eq_true (by kernel_rfl))
                have h4 : f 4 = true := hw 4 (of_decide_eq_true (by kernel_rfl))
                obtain rfl := hF.k0 h0
                obtain rfl := hF.k4 h4
                have hcall := implGP_any p0 p1 p2 fa' d0 d1 d2 fc' g fs[k].1 fs[k].2.1 fs[k].2.2 u hWG.nice.fit hil' hcap.1 hcap.2 (s0'.below hF.bel) (s1'.below hF.bel) (s2'.below hF.bel) hfk hfc' (hrow.below hF.bel) (hetW.below hF.bel)
                rw [← HLL.out.1] at hcall
                refine wpOp_wanted rfl (by kernel_rfl) ?_
                go_simp
                refine Calls.mono hcall ?_
                rintro e n ⟨hE, bx⟩
                obtain ⟨R', rfl, e1, e2, hcal⟩ := hE.cal
                have hF' := hF.below hC bx
                have no6 : f 6 = true → False := fun h => by have := hF.c6 h; rw [hfj] at this; cases this
                have no7 : f 7 = true → False := fun h => by have := hF.c7 h; rw [hfj] at this; cases this
                have no8 : f 8 = true → False := fun h => by have := hF.c8 h; rw [hfj] at this; cases this
                have no9 : f 9 = true → False := fun h => by have := hF.c9 h; rw [hfj] at this; cases this
                have no12 : f 12 = true → False := fun h => by have := (hF.c12 h).1; rw [hfj] at this; cases this
                have no13 : f 13 = true → False := fun h => by have := (hF.c13 h).1; rw [hfj] at this; cases this
                have no14 : f 14 = true → False := fun h => by have := hF.c14 h; rw [hfj] at this; cases this
                have zW := hF.bel.size
                exact ⟨R', b10, b11, _, _, _, _, _, _, _, _, _, _, _, _, _, ⟨rfl, rfl, rfl, rfl, rfl, rfl, rfl, rfl, rfl, rfl, rfl, rfl, rfl⟩, { bel := hF'.bel, k0 := hF'.k0, k1 := hF'.k1, k2 := hF'.k2, k3 := hF'.k3, k4 := hF'.k4, k5 := fun _ => ⟨rfl, hcal, by rw [e1]; exact zW⟩, k6 := fun e => (no6 e).elim, k7 := fun e => (no7 e).elim, k8 := fun e => (no8 e).elim, k9 := fun e => (no9 e).elim, k10 := fun e => let ⟨q0, q1, q2, q3, q4, q5⟩ := hF'.k10 e; ⟨q0, q1, q2, fun _ => .inl (by rw [e1]; exact (hF.k10 e).2.2.1), q4, fun e' => (no12 e').elim⟩, k11 := fun e => let ⟨q0, q1, q2, q3, q4, q5⟩ := hF'.k11 e; ⟨q0, q1, q2, fun _ => .inl (by rw [e1]; exact (hF.k11 e).2.2.1), q4, fun e' => (no13 e').elim⟩, k14 := fun e => (no14 e).elim, ne := hF'.ne, c6 := fun _ => rfl, c7 := fun _ => rfl, c8 := fun _ => rfl, c9 := fun _ => rfl, c12 := fun e => (no12 e).elim, c13 := fun e => (no13 e).elim, c14 := fun e => (no14 e).elim }⟩
              · have h5 : f 5 = true := hw 5 (of_decide_eq_true (by kernel_rfl))
                obtain ⟨rfl, _, _⟩ := hF.k5 h5
                refine wpOp_wanted rfl (by kernel_rfl) ?_
                go_simp
                exact ⟨R, b10, b11, _, _, _, _, _, _, _, _, _, _, _, _, _, ⟨rfl, rfl, rfl, rfl, rfl, rfl, rfl, rfl, rfl, rfl, rfl, rfl, rfl⟩, { hF with k6 := fun _ => rfl, c6 := fun _ => h5 }⟩
              · have h6 : f 6 = true := hw 6 (of_decide_eq_true (by kernel_rfl))
                have h5 := hF.c6 h6
                obtain rfl := hF.k6 h6
                refine wpOp_wanted rfl (by kernel_rfl) ?_
                go_simp
                exact ⟨R, b10, b11, _, _, _, _, _, _, _, _, _, _, _, _, _, ⟨rfl, rfl, rfl, rfl, rfl, rfl, rfl, rfl, rfl, rfl, rfl, rfl, rfl⟩, { hF with k7 := fun _ => rfl, c7 := fun _ => h5 }⟩
              · have h6 : f 6 = true := hw 6 (of_decide_eq_true (by kernel_rfl))
                have h5 := hF.c6 h6
                obtain rfl := hF.k6 h6
                refine wpOp_wanted rfl (by kernel_rfl) ?_
                go_simp
                exact ⟨R, b10, b11, _, _, _, _, _, _, _, _, _, _, _, _, _, ⟨rfl, rfl, rfl, rfl, rfl, rfl, rfl, rfl, rfl, rfl, rfl, rfl, rfl⟩, { hF with k8 := fun _ => rfl, c8 := fun _ => h5 }⟩
              · have h6 : f 6 = true := hw 6 (of_decide_eq_true (by kernel_rfl))
                have h5 := hF.c6 h6
                obtain rfl := hF.k6 h6
                refine wpOp_wanted rfl (by kernel_rfl) ?_
                go_simp
                exact ⟨R, b10, b11, _, _, _, _, _, _, _, _, _, _, _, _, _, ⟨rfl, rfl, rfl, rfl, rfl, rfl, rfl, rfl, rfl, rfl, rfl, rfl, rfl⟩, { hF with k9 := fun _ => rfl, c9 := fun _ => h5 }⟩
              · refine wpOp_wanted rfl (by kernel_rfl) ?_
                go_simp
                have bx : Below u.heap.size u (u.alloc (.cells #[.slice none 0 0, .slice none 0 0, .slice none 0 0] 30)) := (Below.refl _ _).alloc (Nat.le_refl _) _
                have hF' := hF.below hC bx
                have no12 : f 12 = true → False := fun h => by have := (hF.c12 h).2; rw [hfj] at this; cases this
                have hnew := tri_new u (.slice none 0 0) (.slice none 0 0) (.slice none 0 0) 30
                have zW := hF.bel.size
                exact ⟨R, u.heap.size, b11, _, _, _, _, _, _, _, _, _, _, _, _, _, ⟨rfl, rfl, rfl, rfl, rfl, rfl, rfl, rfl, rfl, rfl, rfl, rfl, rfl⟩, { hF' with k10 := fun _ => ⟨rfl, zW, by simp, fun e => .inr (hF.k5 e).2.1.o4, fun _ => hnew, fun e => (no12 e).elim⟩, ne := fun _ e => Nat.ne_of_gt (hF.k11 e).2.2.1, c12 := fun e => (no12 e).elim }⟩
              · refine wpOp_wanted rfl (by kernel_rfl) ?_
                go_simp
                have bx : Below u.heap.size u (u.alloc (.cells #[.slice none 0 0, .slice none 0 0] 36)) := (Below.refl _ _).alloc (Nat.le_refl _) _
                have hF' := hF.below hC bx
                have no13 : f 13 = true → False := fun h => by have := (hF.c13 h).2; rw [hfj] at this; cases this
                have hnew := duo_new u (.slice none 0 0) (.slice none 0 0) 36
                have zW := hF.bel.size
                exact ⟨R, b10, u.heap.size, _, _, _, _, _, _, _, _, _, _, _, _, _, ⟨rfl, rfl, rfl, rfl, rfl, rfl, rfl, rfl, rfl, rfl, rfl, rfl, rfl⟩, { hF' with k11 := fun _ => ⟨rfl, zW, by simp, fun e => .inr (hF.k5 e).2.1.o4, fun _ => hnew, fun e => (no13 e).elim⟩, ne := fun e _ => Nat.ne_of_lt (hF.k10 e).2.2.1, c13 := fun e => (no13 e).elim }⟩
              · have h10 : f 10 = true := hw 10 (of_decide_eq_true (by kernel_rfl))
                have h7 : f 7 = true := hw 7 (of_decide_eq_true (by kernel_rfl))
                have h11 : f 11 = true := hw 11 (of_decide_eq_true (by kernel_rfl))
                have h5 := hF.c7 h7
                obtain rfl := hF.k7 h7
                obtain ⟨rfl, q1, q2, q3, q4, _⟩ := hF.k10 h10
                have tt := q4 hfj
                obtain ⟨i0, i1, i2, o0, o1, o2⟩ := id tt
                refine wpOp_wanted rfl (by kernel_rfl) ?_
                go_simp
                have sx : Span b10 (b10 + 1) u (((u.setCell ⟨b10, 0, none⟩ (.slice R.s0 R.g.ins.length R.d0)).setCell ⟨b10, 1, none⟩ (.slice R.s1 R.L.length R.d1)).setCell ⟨b10, 2, none⟩ (.slice R.s2 R.g.shown.length R.d2)) := (((Span.refl _ _ _).setCell (Nat.le_refl _) (Nat.lt_succ_self _) _ _).setCell (Nat.le_refl _) (Nat.lt_succ_self _) _ _).setCell (Nat.le_refl _) (Nat.lt_succ_self _) _ _
                have tn := ((tt.set0 (.slice R.s0 R.g.ins.length R.d0)).set1 (.slice R.s1 R.L.length R.d1)).set2c (.slice R.s2 R.g.shown.length R.d2)
                have zx : (((u.setCell ⟨b10, 0, none⟩ (.slice R.s0 R.g.ins.length R.d0)).setCell ⟨b10, 1, none⟩ (.slice R.s1 R.L.length R.d1)).setCell ⟨b10, 2, none⟩ (.slice R.s2 R.g.shown.length R.d2)).heap.size = u.heap.size := by simp
                have far := q3 h5
                have ne := hF.ne h10 h11
                have hb' := hF.bel.trans (sx.below q1 hF.bel.size)
                generalize (((u.setCell ⟨b10, 0, none⟩ (.slice R.s0 R.g.ins.length R.d0)).setCell ⟨b10, 1, none⟩ (.slice R.s1 R.L.length R.d1)).setCell ⟨b10, 2, none⟩ (.slice R.s2 R.g.shown.length R.d2)) = n at *
                exact ⟨R, b10, b11, _, _, _, _, _, _, _, _, _, _, _, _, _, ⟨rfl, rfl, rfl, rfl, rfl, rfl, rfl, rfl, rfl, rfl, rfl, rfl, rfl⟩, { bel := hb', k0 := hF.k0, k1 := hF.k1, k2 := hF.k2, k3 := hF.k3, k4 := hF.k4, k5 := fun e => let ⟨r0, r1, r2⟩ := hF.k5 e; ⟨r0, r1.span sx (by omega), r2⟩, k6 := hF.k6, k7 := hF.k7, k8 := hF.k8, k9 := hF.k9, k10 := fun _ => ⟨rfl, q1, by omega, fun _ => far, (fun e => by cases e), fun _ => tn⟩, k11 := fun e => let ⟨r0, r1, r2, r3, r4, r5⟩ := hF.k11 e; ⟨r0, r1, by omega, r3, fun e' => (r4 e').span sx (by omega), fun e' => (r5 e').span sx (by omega)⟩, k14 := hF.k14, ne := hF.ne, c6 := hF.c6, c7 := hF.c7, c8 := hF.c8, c9 := hF.c9, c12 := fun _ => ⟨h5, h10⟩, c13 := hF.c13, c14 := hF.c14 }⟩
              · have h11 : f 11 = true := hw 11 (of_decide_eq_true (by kernel_rfl))
                have h8 : f 8 = true := hw 8 (of_decide_eq_true (by kernel_rfl))
                have h10 : f 10 = true := hw 10 (of_decide_eq_true (by kernel_rfl))
                have h5 := hF.c8 h8
                obtain rfl := hF.k8 h8
                obtain ⟨rfl, q1, q2, q3, q4, _⟩ := hF.k11 h11
                have tt := q4 hfj
                obtain ⟨i0, i1, o0, o1⟩ := id tt
                refine wpOp_wanted rfl (by kernel_rfl) ?_
                go_simp
                have sx : Span b11 (b11 + 1) u ((u.setCell ⟨b11, 0, none⟩ (.slice R.s3 R.sv.length R.d3)).setCell ⟨b11, 1, none⟩ (.slice R.s4 R.ss.length R.d4)) := ((Span.refl _ _ _).setCell (Nat.le_refl _) (Nat.lt_succ_self _) _ _).setCell (Nat.le_refl _) (Nat.lt_succ_self _) _ _
                have tn := (tt.set0 (.slice R.s3 R.sv.length R.d3)).set1 (.slice R.s4 R.ss.length R.d4)
                have zx : ((u.setCell ⟨b11, 0, none⟩ (.slice R.s3 R.sv.length R.d3)).setCell ⟨b11, 1, none⟩ (.slice R.s4 R.ss.length R.d4)).heap.size = u.heap.size := by simp
                have far := q3 h5
                have ne := hF.ne h10 h11
                have hb' := hF.bel.trans (sx.below q1 hF.bel.size)
                generalize ((u.setCell ⟨b11, 0, none⟩ (.slice R.s3 R.sv.length R.d3)).setCell ⟨b11, 1, none⟩ (.slice R.s4 R.ss.length R.d4)) = n at *
                exact ⟨R, b10, b11, _, _, _, _, _, _, _, _, _, _, _, _, _, ⟨rfl, rfl, rfl, rfl, rfl, rfl, rfl, rfl, rfl, rfl, rfl, rfl, rfl⟩, { bel := hb', k0 := hF.k0, k1 := hF.k1, k2 := hF.k2, k3 := hF.k3, k4 := hF.k4, k5 := fun e => let ⟨r0, r1, r2⟩ := hF.k5 e; ⟨r0, r1.span sx (by omega), r2⟩, k6 := hF.k6, k7 := hF.k7, k8 := hF.k8, k9 := hF.k9, k11 := fun _ => ⟨rfl, q1, by omega, fun _ => far, (fun e => by cases e), fun _ => tn⟩, k10 := fun e => let ⟨r0, r1, r2, r3, r4, r5⟩ := hF.k10 e; ⟨r0, r1, by omega, r3, fun e' => (r4 e').span sx (by omega), fun e' => (r5 e').span sx (by omega)⟩, k14 := hF.k14, ne := hF.ne, c6 := hF.c6, c7 := hF.c7, c8 := hF.c8, c9 := hF.c9, c12 := hF.c12, c13 := fun _ => ⟨h5, h11⟩, c14 := hF.c14 }⟩
              · have h9 : f 9 = true := hw 9 (of_decide_eq_true (by kernel_rfl))
                have h5 := hF.c9 h9
                obtain rfl := hF.k9 h9
                refine wpOp_wanted rfl (by kernel_rfl) ?_
                go_simp
                exact ⟨R, b10, b11, _, _, _, _, _, _, _, _, _, _, _, _, _, ⟨rfl, rfl, rfl, rfl, rfl, rfl, rfl, rfl, rfl, rfl, rfl, rfl, rfl⟩, { hF with k14 := fun _ => rfl, c14 := fun _ => h5 }⟩
            case fin =>
              rintro f a u ⟨R, b10, b11, v11, v12, v13, v32, v33, v34, v35, v36, v37, v38, v39, v40, v41, rfl, hF⟩ hall
              have hm6 := hF.k6 (hall 6 (of_decide_eq_true (by kernel_rfl)))
              have hm7 := hF.k7 (hall 7 (of_decide_eq_true (by kernel_rfl)))
              have hm8 := hF.k8 (hall 8 (of_decide_eq_true (by kernel_rfl)))
              have hm9 := hF.k9 (hall 9 (of_decide_eq_true (by kernel_rfl)))
              have hm0 := hF.k0 (hall 0 (of_decide_eq_true (by kernel_rfl)))
              have hm1 := hF.k1 (hall 1 (of_decide_eq_true (by kernel_rfl)))
              have hm2 := hF.k2 (hall 2 (of_decide_eq_true (by kernel_rfl)))
              have hm3 := hF.k3 (hall 3 (of_decide_eq_true (by kernel_rfl)))
              have hm4 := hF.k4 (hall 4 (of_decide_eq_true (by kernel_rfl)))
              subst hm0 hm1 hm2 hm3 hm4 hm6 hm7 hm8 hm9
              obtain ⟨rfl, hI, wtl⟩ := hF.k5 (hall 5 (of_decide_eq_true (by kernel_rfl)))
              obtain ⟨rfl, w10, l10, far10, _, tT⟩ := hF.k10 (hall 10 (of_decide_eq_true (by kernel_rfl)))
              obtain ⟨rfl, w11, l11, far11, _, dS⟩ := hF.k11 (hall 11 (of_decide_eq_true (by kernel_rfl)))
              obtain rfl := hF.k14 (hall 14 (of_decide_eq_true (by kernel_rfl)))
              have ne := hF.ne (hall 10 (of_decide_eq_true (by kernel_rfl))) (hall 11 (of_decide_eq_true (by kernel_rfl)))
              replace tT := tT (hall 12 (of_decide_eq_true (by kernel_rfl)))
              replace dS := dS (hall 13 (of_decide_eq_true (by kernel_rfl)))
              replace far10 := far10 (hall 5 (of_decide_eq_true (by kernel_rfl)))
              replace far11 := far11 (hall 5 (of_decide_eq_true (by kernel_rfl)))
              have bU := hF.bel
              have HPUT : Hid (PutG g fs[k].1 fs[k].2.1 fs[k].2.2 R.g R.sv R.ss R.code) := hI.put
              have hWGu := hWG.keep bU
              have hWHu := hWH.keep bU
              have zU := bU.size
              have hBt : bH + 1 ≤ wr.heap.size := hWH.BU
              have bU2 := hb.trans (bU.mono hb.size)
              clear hF hall HSS hWG hWH s0' s1' s2' hetW
              go_wp2_with fail
              have hWHn := hWHu.nice
              have HSS2 : Hid (∀ v : World, Below u.heap.size u v → v.cell? ⟨bH, 0, none⟩ = some (.slice r0 g.ins.length c0) ∧ v.cell? ⟨bH, 1, none⟩ = some (.slice r1 Lv'.length c1) ∧ v.cell? ⟨bH, 2, none⟩ = some (.slice r2 g.shown.length c2) ∧ v.cell? ⟨bf, of + k * 3, none⟩ = some (.int .i64 fs[k].1) ∧ v.cell? ⟨bf, of + k * 3 + 1, none⟩ = some (.int .i64 fs[k].2.1) ∧ v.cell? ⟨bf, of + k * 3 + 2, none⟩ = some (.slice fa' fs[k].2.2.length fc')) := fun v hv => HSH.out v (bU.trans (hv.mono bU.size))
              obtain ⟨uW, hUW⟩ : ∃ uW, uW = u := ⟨_, rfl⟩
              subst hUW
              refine wp_region_inv (by kernel_rfl) (by kernel_rfl) (fun f a u => ∃ (RS : ResG) (c10 c11 : Nat) (v11 v12 v13 v32 v33 v34 v35 v36 v37 v38 v39 v40 v41 : Value), a = { tmps := #[Value.slice ab n c, undef, u2, Value.slice ia ins.length ic, Value.slice (some { block := bf, off := of }) fs.length fc, Value.pointer (some { block := w2.heap.size, off := 0 }), Value.bool true, Value.pointer (some { block := bH, off := 0 }), Value.bool true, Value.int IntKind.i64 (k : Int), Value.pointer (some { block := b10, off := 0 }), Value.pointer (some { block := b11, off := 0 }), Value.int IntKind.i64 R.code, v11, v12, v13, Value.slice ab n c, Value.int IntKind.i64 (n : Int), Value.bool false, Value.tuple #[Value.slice ia ins.length ic, Value.slice (some { block := bf, off := of }) fs.length fc], Value.slice ab n c, Value.tuple #[Value.slice ia ins.length ic, Value.slice (some { block := bf, off := of }) fs.length fc], Value.slice ia ins.length ic, Value.slice (some { block := bf, off := of }) fs.length fc, Value.tuple #[Value.agg #[Value.slice s0 ins.length e0, Value.slice s1 Lw.length e1, Value.slice s2 0 e2], Value.bool true], Value.slice ia ins.length ic, Value.tuple #[Value.agg #[Value.slice s0 ins.length e0, Value.slice s1 Lw.length e1, Value.slice s2 0 e2], Value.bool true], Value.agg #[Value.slice s0 ins.length e0, Value.slice s1 Lw.length e1, Value.slice s2 0 e2], Value.bool true, Value.tuple #[Value.agg #[Value.slice t0 ins.length f0, Value.slice t1 Lv.length f1, Value.slice t2 0 f2], Value.bool true], Value.slice ia ins.length ic, Value.tuple #[Value.agg #[Value.slice t0 ins.length f0, Value.slice t1 Lv.length f1, Value.slice t2 0 f2], Value.bool true], Value.agg #[Value.slice t0 ins.length f0, Value.slice t1 Lv.length f1, Value.slice t2 0 f2], Value.bool true, Value.bool true, Value.bool true, Value.bool false, Value.bool false, Value.agg #[Value.slice s0 ins.length e0, Value.slice s1 Lw.length e1, Value.slice s2 0 e2], Value.agg #[Value.slice t0 ins.length f0, Value.slice t1 Lv.length f1, Value.slice t2 0 f2], Value.bool true, Value.bool false, Value.bool false, Value.bool true, Value.bool true, Value.int IntKind.i64 (k : Int), Value.slice (some { block := bf, off := of }) fs.length fc, Value.int IntKind.i64 (fs.length : Int), Value.bool true, Value.bool true, Value.bool true, Value.int IntKind.i64 (k : Int), Value.bool true, Value.bool true, u54, u55, R.all, Value.agg #[Value.slice p0 g.ins.length d0, Value.slice p1 Lw'.length d1, Value.slice p2 g.shown.length d2], Value.slice (some { block := bf, off := of }) fs.length fc, Value.int IntKind.i64 (k : Int), Value.pointer (some { block := bf, off := of + k * 3 }), Value.agg #[Value.int IntKind.i64 fs[k].fst, Value.int IntKind.i64 fs[k].snd.fst, Value.slice fa' fs[k].snd.snd.length fc'], R.all, R.gv, R.wv, Value.int IntKind.i64 R.code, v32, v33, v34, v35, v36, v37, v38, v39, v40, v41, u76, u77, u78, u79, u80, u81, u82, u83, u84, u85, u86, u87, u88, u89, u90, u91, u92, u93, u94, u95, u96, u97, u98, u99, u100, u101, u102, u103, u104, u105, u106, u107, u108, u109, u110, u111, u112, u113, u114, u115, u116], defers := [] } ∧ Fy (CalS g fs[k].1 fs[k].2.1 fs[k].2.2) uW (.agg #[.slice r0 g.ins.length c0, .slice r1 Lv'.length c1, .slice r2 g.shown.length c2]) (.slice (some ⟨bf, of, none⟩) fs.length fc) (.int .i64 (k : Int)) (.pointer (some ⟨bf, of + k * 3, none⟩)) (.agg #[.int .i64 fs[k].1, .int .i64 fs[k].2.1, .slice fa' fs[k].2.2.length fc']) f RS c10 c11 v11 v12 v13 v32 v33 v34 v35 v36 v37 v38 v39 v40 v41 u) ?start ?step ?fin
              case start =>
                refine ⟨⟨⟨[], [], []⟩, [], [], [], 0, none, none, none, none, none, 0, 0, 0, 0, 0, 0, 0, 0, 0⟩, 0, 0, _, _, _, _, _, _, _, _, _, _, _, _, _, rfl, ?_⟩
                exact { bel := (Below.refl _ _).drew, k0 := (fun h => by cases h), k1 := (fun h => by cases h), k2 := (fun h => by cases h), k3 := (fun h => by cases h), k4 := (fun h => by cases h), k5 := (fun h => by cases h), k6 := (fun h => by cases h), k7 := (fun h => by cases h), k8 := (fun h => by cases h), k9 := (fun h => by cases h), k10 := (fun h => by cases h), k11 := (fun h => by cases h), k14 := (fun h => by cases h), ne := (fun h => by cases h), c6 := (fun h => by cases h), c7 := (fun h => by cases h), c8 := (fun h => by cases h), c9 := (fun h => by cases h), c12 := (fun h => by cases h), c13 := (fun h => by cases h), c14 := (fun h => by cases h) }
              case step =>
                rintro f a u j ⟨RS, c10, c11, v11, v12, v13, v32, v33, v34, v35, v36, v37, v38, v39, v40, v41, rfl, hF⟩ hj hfj hw
                obtain ⟨z0, z1, z2, z3, z4, z5⟩ := HSS2.out _ hF.bel
                have hj' : j < 15 := hj
                have hC : ∀ RS u u', CalS g fs[k].1 fs[k].2.1 fs[k].2.2 RS u → Below u.heap.size u u' → CalS g fs[k].1 fs[k].2.1 fs[k].2.2 RS u' := fun RS u u' h hb => h.below hb
                rcases (by omega : j = 0 ∨ j = 1 ∨ j = 2 ∨ j = 3 ∨ j = 4 ∨ j = 5 ∨ j = 6 ∨ j = 7 ∨ j = 8 ∨ j = 9 ∨ j = 10 ∨ j = 11 ∨ j = 12 ∨ j = 13 ∨ j = 14) with rfl | rfl | rfl | rfl | rfl | rfl | rfl | rfl | rfl | rfl | rfl | rfl | rfl | rfl | rfl
                · refine wpOp_wanted rfl (by kernel_rfl) ?_
                  go_simp
                  exact ⟨RS, c10, c11, _, _, _, _, _, _, _, _, _, _, _, _, _, ⟨rfl, rfl, rfl, rfl, rfl, rfl, rfl, rfl, rfl, rfl, rfl, rfl, rfl⟩, { hF with k0 := fun _ => rfl }⟩
                · refine wpOp_wanted rfl (by kernel_rfl) ?_
                  go_simp
                  exact ⟨RS, c10, c11, _, _, _, _, _, _, _, _, _, _, _, _, _, ⟨rfl, rfl, rfl, rfl, rfl, rfl, rfl, rfl, rfl, rfl, rfl, rfl, rfl⟩, { hF with k1 := fun _ => rfl }⟩
                · refine wpOp_wanted rfl (by kernel_rfl) ?_
                  go_simp
                  exact ⟨RS, c10, c11, _, _, _, _, _, _, _, _, _, _, _, _, _, ⟨rfl, rfl, rfl, rfl, rfl, rfl, rfl, rfl, rfl, rfl, rfl, rfl, rfl⟩, { hF with k2 := fun _ => rfl }⟩
                · have h1 : f 1 = true := hw 1 (of_decide_eq_true (by kernel_rfl))
                  have h2 : f 2 = true := hw 2 (of_decide_eq_true (by kernel_rfl))
                  obtain rfl := hF.k1 h1
                  obtain rfl := hF.k2 h2
                  refine wpOp_wanted rfl (by kernel_rfl) ?_
                  go_simp
                  exact ⟨RS, c10, c11, _, _, _, _, _, _, _, _, _, _, _, _, _, ⟨rfl, rfl, rfl, rfl, rfl, rfl, rfl, rfl, rfl, rfl, rfl, rfl, rfl⟩, { hF with k3 := fun _ => rfl }⟩
                · have h3 : f 3 = true := hw 3 (of_decide_eq_true (by kernel_rfl))
                  obtain rfl := hF.k3 h3
                  refine wpOp_wanted rfl (by kernel_rfl) ?_
                  go_simp
                  exact ⟨RS, c10, c11, _, _, _, _, _, _, _, _, _, _, _, _, _, ⟨rfl, rfl, rfl, rfl, rfl, rfl, rfl, rfl, rfl, rfl, rfl, rfl, rfl⟩, { hF with k4 := fun _ => rfl }⟩
                · have h0 : f 0 = true := hw 0 (of_decide_eq_true (by kernel_rfl))
                  have h4 : f 4 = true := hw 4 (of_decide_eq_true (by kernel_rfl))
                  obtain rfl := hF.k0 h0
                  obtain rfl := hF.k4 h4
                  have hcall := specGP_any r0 r1 r2 fa' c0 c1 c2 fc' g fs[k].1 fs[k].2.1 fs[k].2.2 u hWHn.fit hil' (t0'.below (bU.trans (hF.bel.mono bU.size))) (t1'.below (bU.trans (hF.bel.mono bU.size))) (t2'.below (bU.trans (hF.bel.mono bU.size))) hfk (hrow.below (bU.trans (hF.bel.mono bU.size)))
                  rw [← HLL.out.2] at hcall
                  refine wpOp_wanted rfl (by kernel_rfl) ?_
                  go_simp
                  refine Calls.mono hcall ?_
                  rintro e n ⟨hE, bx⟩
                  obtain ⟨RS', rfl, e1, e2, hcal⟩ := hE.cal bx.size
                  have hF' := hF.below hC bx
                  have no6 : f 6 = true → False := fun h => by have := hF.c6 h; rw [hfj] at this; cases this
                  have no7 : f 7 = true → False := fun h => by have := hF.c7 h; rw [hfj] at this; cases this
                  have no8 : f 8 = true → False := fun h => by have := hF.c8 h; rw [hfj] at this; cases this
                  have no9 : f 9 = true → False := fun h => by have := hF.c9 h; rw [hfj] at this; cases this
                  have no12 : f 12 = true → False := fun h => by have := (hF.c12 h).1; rw [hfj] at this; cases this
                  have no13 : f 13 = true → False := fun h => by have := (hF.c13 h).1; rw [hfj] at this; cases this
                  have no14 : f 14 = true → False := fun h => by have := hF.c14 h; rw [hfj] at this; cases this
                  have zW := hF.bel.size
                  exact ⟨RS', c10, c11, _, _, _, _, _, _, _, _, _, _, _, _, _, ⟨rfl, rfl, rfl, rfl, rfl, rfl, rfl, rfl, rfl, rfl, rfl, rfl, rfl⟩, { bel := hF'.bel, k0 := hF'.k0, k1 := hF'.k1, k2 := hF'.k2, k3 := hF'.k3, k4 := hF'.k4, k5 := fun _ => ⟨rfl, hcal, by rw [e1]; exact zW⟩, k6 := fun e => (no6 e).elim, k7 := fun e => (no7 e).elim, k8 := fun e => (no8 e).elim, k9 := fun e => (no9 e).elim, k10 := fun e => let ⟨q0, q1, q2, q3, q4, q5⟩ := hF'.k10 e; ⟨q0, q1, q2, fun _ => .inl (by rw [e1]; exact (hF.k10 e).2.2.1), q4, fun e' => (no12 e').elim⟩, k11 := fun e => let ⟨q0, q1, q2, q3, q4, q5⟩ := hF'.k11 e; ⟨q0, q1, q2, fun _ => .inl (by rw [e1]; exact (hF.k11 e).2.2.1), q4, fun e' => (no13 e').elim⟩, k14 := fun e => (no14 e).elim, ne := hF'.ne, c6 := fun _ => rfl, c7 := fun _ => rfl, c8 := fun _ => rfl, c9 := fun _ => rfl, c12 := fun e => (no12 e).elim, c13 := fun e => (no13 e).elim, c14 := fun e => (no14 e).elim }⟩
                · have h5 : f 5 = true := hw 5 (of_decide_eq_true (by kernel_rfl))
                  obtain ⟨rfl, _, _⟩ := hF.k5 h5
                  refine wpOp_wanted rfl (by kernel_rfl) ?_
                  go_simp
                  exact ⟨RS, c10, c11, _, _, _, _, _, _, _, _, _, _, _, _, _, ⟨rfl, rfl, rfl, rfl, rfl, rfl, rfl, rfl, rfl, rfl, rfl, rfl, rfl⟩, { hF with k6 := fun _ => rfl, c6 := fun _ => h5 }⟩
                · have h6 : f 6 = true := hw 6 (of_decide_eq_true (by kernel_rfl))
                  have h5 := hF.c6 h6
                  obtain rfl := hF.k6 h6
                  refine wpOp_wanted rfl (by kernel_rfl) ?_
                  go_simp
                  exact ⟨RS, c10, c11, _, _, _, _, _, _, _, _, _, _, _, _, _, ⟨rfl, rfl, rfl, rfl, rfl, rfl, rfl, rfl, rfl, rfl, rfl, rfl, rfl⟩, { hF with k7 := fun _ => rfl, c7 := fun _ => h5 }⟩
                · have h6 : f 6 = true := hw 6 (of_decide_eq_true (by kernel_rfl))
                  have h5 := hF.c6 h6
                  obtain rfl := hF.k6 h6
                  refine wpOp_wanted rfl (by kernel_rfl) ?_
                  go_simp
                  exact ⟨RS, c10, c11, _, _, _, _, _, _, _, _, _, _, _, _, _, ⟨rfl, rfl, rfl, rfl, rfl, rfl, rfl, rfl, rfl, rfl, rfl, rfl, rfl⟩, { hF with k8 := fun _ => rfl, c8 := fun _ => h5 }⟩
                · have h6 : f 6 = true := hw 6 (of_decide_eq_true (by kernel_rfl))
                  have h5 := hF.c6 h6
                  obtain rfl := hF.k6 h6
                  refine wpOp_wanted rfl (by kernel_rfl) ?_
                  go_simp
                  exact ⟨RS, c10, c11, _, _, _, _, _, _, _, _, _, _, _, _, _, ⟨rfl, rfl, rfl, rfl, rfl, rfl, rfl, rfl, rfl, rfl, rfl, rfl, rfl⟩, { hF with k9 := fun _ => rfl, c9 := fun _ => h5 }⟩
                · refine wpOp_wanted rfl (by kernel_rfl) ?_
                  go_simp
                  have bx : Below u.heap.size u (u.alloc (.cells #[.slice none 0 0, .slice none 0 0, .slice none 0 0] 30)) := (Below.refl _ _).alloc (Nat.le_refl _) _
                  have hF' := hF.below hC bx
                  have no12 : f 12 = true → False := fun h => by have := (hF.c12 h).2; rw [hfj] at this; cases this
                  have hnew := tri_new u (.slice none 0 0) (.slice none 0 0) (.slice none 0 0) 30
                  have zW := hF.bel.size
                  exact ⟨RS, u.heap.size, c11, _, _, _, _, _, _, _, _, _, _, _, _, _, ⟨rfl, rfl, rfl, rfl, rfl, rfl, rfl, rfl, rfl, rfl, rfl, rfl, rfl⟩, { hF' with k10 := fun _ => ⟨rfl, zW, by simp, fun e => .inr (hF.k5 e).2.1.o4, fun _ => hnew, fun e => (no12 e).elim⟩, ne := fun _ e => Nat.ne_of_gt (hF.k11 e).2.2.1, c12 := fun e => (no12 e).elim }⟩
                · refine wpOp_wanted rfl (by kernel_rfl) ?_
                  go_simp
                  have bx : Below u.heap.size u (u.alloc (.cells #[.slice none 0 0, .slice none 0 0] 36)) := (Below.refl _ _).alloc (Nat.le_refl _) _
                  have hF' := hF.below hC bx
                  have no13 : f 13 = true → False := fun h => by have := (hF.c13 h).2; rw [hfj] at this; cases this
                  have hnew := duo_new u (.slice none 0 0) (.slice none 0 0) 36
                  have zW := hF.bel.size
                  exact ⟨RS, c10, u.heap.size, _, _, _, _, _, _, _, _, _, _, _, _, _, ⟨rfl, rfl, rfl, rfl, rfl, rfl, rfl, rfl, rfl, rfl, rfl, rfl, rfl⟩, { hF' with k11 := fun _ => ⟨rfl, zW, by simp, fun e => .inr (hF.k5 e).2.1.o4, fun _ => hnew, fun e => (no13 e).elim⟩, ne := fun e _ => Nat.ne_of_lt (hF.k10 e).2.2.1, c13 := fun e => (no13 e).elim }⟩
                · have h10 : f 10 = true := hw 10 (of_decide_eq_true (by kernel_rfl))
                  have h7 : f 7 = true := hw 7 (of_decide_eq_true (by kernel_rfl))
                  have h11 : f 11 = true := hw 11 (of_decide_eq_true (by kernel_rfl))
                  have h5 := hF.c7 h7
                  obtain rfl := hF.k7 h7
                  obtain ⟨rfl, q1, q2, q3, q4, _⟩ := hF.k10 h10
                  have tt := q4 hfj
                  obtain ⟨i0, i1, i2, o0, o1, o2⟩ := id tt
                  refine wpOp_wanted rfl (by kernel_rfl) ?_
                  go_simp
                  have sx : Span c10 (c10 + 1) u (((u.setCell ⟨c10, 0, none⟩ (.slice RS.s0 RS.g.ins.length RS.d0)).setCell ⟨c10, 1, none⟩ (.slice RS.s1 RS.L.length RS.d1)).setCell ⟨c10, 2, none⟩ (.slice RS.s2 RS.g.shown.length RS.d2)) := (((Span.refl _ _ _).setCell (Nat.le_refl _) (Nat.lt_succ_self _) _ _).setCell (Nat.le_refl _) (Nat.lt_succ_self _) _ _).setCell (Nat.le_refl _) (Nat.lt_succ_self _) _ _
                  have tn := ((tt.set0 (.slice RS.s0 RS.g.ins.length RS.d0)).set1 (.slice RS.s1 RS.L.length RS.d1)).set2c (.slice RS.s2 RS.g.shown.length RS.d2)
                  have zx : (((u.setCell ⟨c10, 0, none⟩ (.slice RS.s0 RS.g.ins.length RS.d0)).setCell ⟨c10, 1, none⟩ (.slice RS.s1 RS.L.length RS.d1)).setCell ⟨c10, 2, none⟩ (.slice RS.s2 RS.g.shown.length RS.d2)).heap.size = u.heap.size := by simp
                  have far := q3 h5
                  have ne := hF.ne h10 h11
                  have hb' := hF.bel.trans (sx.below q1 hF.bel.size)
                  generalize (((u.setCell ⟨c10, 0, none⟩ (.slice RS.s0 RS.g.ins.length RS.d0)).setCell ⟨c10, 1, none⟩ (.slice RS.s1 RS.L.length RS.d1)).setCell ⟨c10, 2, none⟩ (.slice RS.s2 RS.g.shown.length RS.d2)) = n at *
                  exact ⟨RS, c10, c11, _, _, _, _, _, _, _, _, _, _, _, _, _, ⟨rfl, rfl, rfl, rfl, rfl, rfl, rfl, rfl, rfl, rfl, rfl, rfl, rfl⟩, { bel := hb', k0 := hF.k0, k1 := hF.k1, k2 := hF.k2, k3 := hF.k3, k4 := hF.k4, k5 := fun e => let ⟨r0, r1, r2⟩ := hF.k5 e; ⟨r0, r1.span sx (by omega), r2⟩, k6 := hF.k6, k7 := hF.k7, k8 := hF.k8, k9 := hF.k9, k10 := fun _ => ⟨rfl, q1, by omega, fun _ => far, (fun e => by cases e), fun _ => tn⟩, k11 := fun e => let ⟨r0, r1, r2, r3, r4, r5⟩ := hF.k11 e; ⟨r0, r1, by omega, r3, fun e' => (r4 e').span sx (by omega), fun e' => (r5 e').span sx (by omega)⟩, k14 := hF.k14, ne := hF.ne, c6 := hF.c6, c7 := hF.c7, c8 := hF.c8, c9 := hF.c9, c12 := fun _ => ⟨h5, h10⟩, c13 := hF.c13, c14 := hF.c14 }⟩
                · have h11 : f 11 = true := hw 11 (of_decide_eq_true (by kernel_rfl))
                  have h8 : f 8 = true := hw 8 (of_decide_eq_true (by kernel_rfl))
                  have h10 : f 10 = true := hw 10 (of_decide_eq_true (by kernel_rfl))
                  have h5 := hF.c8 h8
                  obtain rfl := hF.k8 h8
                  obtain ⟨rfl, q1, q2, q3, q4, _⟩ := hF.k11 h11
                  have tt := q4 hfj
                  obtain ⟨i0, i1, o0, o1⟩ := id tt
                  refine wpOp_wanted rfl (by kernel_rfl) ?_
                  go_simp
                  have sx : Span c11 (c11 + 1) u ((u.setCell ⟨c11, 0, none⟩ (.slice RS.s3 RS.sv.length RS.d3)).setCell ⟨c11, 1, none⟩ (.slice RS.s4 RS.ss.length RS.d4)) := ((Span.refl _ _ _).setCell (Nat.le_refl _) (Nat.lt_succ_self _) _ _).setCell (Nat.le_refl _) (Nat.lt_succ_self _) _ _
                  have tn := (tt.set0 (.slice RS.s3 RS.sv.length RS.d3)).set1 (.slice RS.s4 RS.ss.length RS.d4)
                  have zx : ((u.setCell ⟨c11, 0, none⟩ (.slice RS.s3 RS.sv.length RS.d3)).setCell ⟨c11, 1, none⟩ (.slice RS.s4 RS.ss.length RS.d4)).heap.size = u.heap.size := by simp
                  have far := q3 h5
                  have ne := hF.ne h10 h11
                  have hb' := hF.bel.trans (sx.below q1 hF.bel.size)
                  generalize ((u.setCell ⟨c11, 0, none⟩ (.slice RS.s3 RS.sv.length RS.d3)).setCell ⟨c11, 1, none⟩ (.slice RS.s4 RS.ss.length RS.d4)) = n at *
                  exact ⟨RS, c10, c11, _, _, _, _, _, _, _, _, _, _, _, _, _, ⟨rfl, rfl, rfl, rfl, rfl, rfl, rfl, rfl, rfl, rfl, rfl, rfl, rfl⟩, { bel := hb', k0 := hF.k0, k1 := hF.k1, k2 := hF.k2, k3 := hF.k3, k4 := hF.k4, k5 := fun e => let ⟨r0, r1, r2⟩ := hF.k5 e; ⟨r0, r1.span sx (by omega), r2⟩, k6 := hF.k6, k7 := hF.k7, k8 := hF.k8, k9 := hF.k9, k11 := fun _ => ⟨rfl, q1, by omega, fun _ => far, (fun e => by cases e), fun _ => tn⟩, k10 := fun e => let ⟨r0, r1, r2, r3, r4, r5⟩ := hF.k10 e; ⟨r0, r1, by omega, r3, fun e' => (r4 e').span sx (by omega), fun e' => (r5 e').span sx (by omega)⟩, k14 := hF.k14, ne := hF.ne, c6 := hF.c6, c7 := hF.c7, c8 := hF.c8, c9 := hF.c9, c12 := hF.c12, c13 := fun _ => ⟨h5, h11⟩, c14 := hF.c14 }⟩
                · have h9 : f 9 = true := hw 9 (of_decide_eq_true (by kernel_rfl))
                  have h5 := hF.c9 h9
                  obtain rfl := hF.k9 h9
                  refine wpOp_wanted rfl (by kernel_rfl) ?_
                  go_simp
                  exact ⟨RS, c10, c11, _, _, _, _, _, _, _, _, _, _, _, _, _, ⟨rfl, rfl, rfl, rfl, rfl, rfl, rfl, rfl, rfl, rfl, rfl, rfl, rfl⟩, { hF with k14 := fun _ => rfl, c14 := fun _ => h5 }⟩
              case fin =>
                rintro f a u ⟨RS, c10, c11, v11, v12, v13, v32, v33, v34, v35, v36, v37, v38, v39, v40, v41, rfl, hF⟩ hall
                have hm6 := hF.k6 (hall 6 (of_decide_eq_true (by kernel_rfl)))
                have hm7 := hF.k7 (hall 7 (of_decide_eq_true (by kernel_rfl)))
                have hm8 := hF.k8 (hall 8 (of_decide_eq_true (by kernel_rfl)))
                have hm9 := hF.k9 (hall 9 (of_decide_eq_true (by kernel_rfl)))
                have hm0 := hF.k0 (hall 0 (of_decide_eq_true (by kernel_rfl)))
                have hm1 := hF.k1 (hall 1 (of_decide_eq_true (by kernel_rfl)))
                have hm2 := hF.k2 (hall 2 (of_decide_eq_true (by kernel_rfl)))
                have hm3 := hF.k3 (hall 3 (of_decide_eq_true (by kernel_rfl)))
                have hm4 := hF.k4 (hall 4 (of_decide_eq_true (by kernel_rfl)))
                subst hm0 hm1 hm2 hm3 hm4 hm6 hm7 hm8 hm9
                obtain ⟨rfl, hIS, wtlS⟩ := hF.k5 (hall 5 (of_decide_eq_true (by kernel_rfl)))
                obtain ⟨rfl, x10, m10, gar10, _, tTS⟩ := hF.k10 (hall 10 (of_decide_eq_true (by kernel_rfl)))
                obtain ⟨rfl, x11, m11, gar11, _, dSS⟩ := hF.k11 (hall 11 (of_decide_eq_true (by kernel_rfl)))
                obtain rfl := hF.k14 (hall 14 (of_decide_eq_true (by kernel_rfl)))
                have ne := hF.ne (hall 10 (of_decide_eq_true (by kernel_rfl))) (hall 11 (of_decide_eq_true (by kernel_rfl)))
                replace tTS := tTS (hall 12 (of_decide_eq_true (by kernel_rfl)))
                replace dSS := dSS (hall 13 (of_decide_eq_true (by kernel_rfl)))
                replace gar10 := gar10 (hall 5 (of_decide_eq_true (by kernel_rfl)))
                replace gar11 := gar11 (hall 5 (of_decide_eq_true (by kernel_rfl)))
                have bV := hF.bel
                have hIV := hI.below bV
                have tTV := tT.keep bV
                have dSV := dS.keep bV
                have hWGv := hWGu.keep bV
                have hWHv := hWHu.keep bV
                have bV2 : Below w2.heap.size w2 u := bU2.trans (bV.mono bU2.size)
                have zV := bV.size
                obtain ⟨eg, ev, es, ec, el⟩ := cal_same hIS hIV
                have hcode : (R.code != RS.code) = false := by rw [ec]; simp
                have HEQ : Hid (RS.g = R.g ∧ RS.sv = R.sv ∧ RS.ss = R.ss) := ⟨eg, ev, es⟩
                have HC1 : Hid (Calls Tryz.prog 9 #[R.gv, RS.gv] u fun e w' => e = .returned (.bool true) ∧ Below u.heap.size u w') := bsRows_any hIS.rows hIV.rows eg.symm
                have o1 := hIV.o1
                have o2 := hIV.o2
                have o3 := hIV.o3
                have o4 := hIV.o4
                have o5 := hIS.o1
                have o6 := hIS.o4
                have hnice := HPUT.out.nice.1
                have HMAP : Hid (RS.L.map (·.l) = R.g.wins ∧ ∀ v : World, CalS g fs[k].1 fs[k].2.1 fs[k].2.2 RS v → SafeG v RS.tl RS.th RS.s0 RS.s1 RS.s2 R.g.ins RS.L R.g.shown) := ⟨by rw [← eg]; exact hIS.map, fun v hv => by rw [← eg]; exact hv.sg⟩
                clear hF hall hI tT dS hWGu hWHu HSS2 HSH eg ev es ec el t0' t1' t2' hrow bV
                obtain ⟨m0, m1, m2, _, _, _⟩ := id tTV
                obtain ⟨n0, n1, n2, _, _, _⟩ := id tTS
                go_wp2_with fail
                refine Calls.mono HC1.out ?_
                rintro e w5 ⟨rfl, b5⟩
                clear HC1 m0 m1 m2 n0 n1 n2
                replace hIV := hIV.below b5
                replace hIS := hIS.below b5
                replace tTV := tTV.keep b5
                replace tTS := tTS.keep b5
                replace dSV := dSV.keep b5
                replace dSS := dSS.keep b5
                replace hWGv := hWGv.keep b5
                replace hWHv := hWHv.keep b5
                replace bV2 : Below w2.heap.size w2 w5 := bV2.trans (b5.mono bV2.size)
                have z_w5 := b5.size
                clear b5
                have HC2 : Hid (Calls Tryz.prog 12 #[R.wv, RS.wv] w5 fun e w' => e = .returned (.bool true) ∧ Below w5.heap.size w5 w') := bsRowsS_any hIS.rows hIV.rows HEQ.out.2.1.symm HEQ.out.2.2.symm
                obtain ⟨m0, m1, _, _⟩ := id dSV
                obtain ⟨n0, n1, _, _⟩ := id dSS
                go_wp2_with fail
                refine Calls.mono HC2.out ?_
                rintro e w6 ⟨rfl, b6⟩
                clear HC2 m0 m1 n0 n1
                replace hIV := hIV.below b6
                replace hIS := hIS.below b6
                replace tTV := tTV.keep b6
                replace tTS := tTS.keep b6
                replace dSV := dSV.keep b6
                replace dSS := dSS.keep b6
                replace hWGv := hWGv.keep b6
                replace hWHv := hWHv.keep b6
                replace bV2 : Below w2.heap.size w2 w6 := bV2.trans (b6.mono bV2.size)
                have z_w6 := b6.size
                clear b6
                rw [HEQ.out.1] at tTS
                by_cases h2 : R.code = 2
                · have h1' : (R.code == 1) = false := by rw [beq_eq_false_iff_ne]; omega
                  have HX : Hid _ := And.intro hWGv (And.intro hWHv bV2)
                  clear hIV hIS tTV tTS dSV dSS hWGv hWHv bV2
                  go_wp2_with fail
                  exact ⟨⟨k + 1, glo, ghi, hlo, hhi, g, Lw', Lv', p0, p1, p2, r0, r1, r2, d0, d1, d2, c0, c1, c2, by omega, by go_num, HX.out.1, HX.out.2.1, hHg, hGh, hcap, hcs, HTOP, HX.out.2.2⟩, by simp [intOf]; omega⟩
                have HT : Hid _ := HPUT.out.top h2 HTOP.out
                by_cases h1 : R.code = 1
                · have HC3 : Hid (Calls Tryz.prog 13 #[R.gv, R.wv] w6 fun e w' => e = .returned (.bool true) ∧ Below w6.heap.size w6 w') := by
                    obtain ⟨out, hc, hv, hj, _, _⟩ := HT.out.2 h1
                    exact bsParts_cal hIV.rows hc hv hj
                  have HORD : Hid (∀ o, IsOrd g.shown R.ss o → o = 1) := fun o ho => by
                    obtain ⟨out, hc, hv, hj, _, h⟩ := HT.out.2 h1
                    exact ho.one h
                  obtain ⟨m0, m1, m2, _, _, _⟩ := id tTV
                  obtain ⟨n0, n1, _, _⟩ := id dSV
                  have h1' : (R.code == 1) = true := by rw [h1]; rfl
                  go_wp2_with fail
                  refine Calls.mono HC3.out ?_
                  rintro e w7 ⟨rfl, b7⟩
                  clear HC3 m0 m1 m2 n0 n1
                  replace hIV := hIV.below b7
                  replace hIS := hIS.below b7
                  replace tTV := tTV.keep b7
                  replace tTS := tTS.keep b7
                  replace dSV := dSV.keep b7
                  replace dSS := dSS.keep b7
                  replace hWGv := hWGv.keep b7
                  replace hWHv := hWHv.keep b7
                  replace bV2 : Below w2.heap.size w2 w7 := bV2.trans (b7.mono bV2.size)
                  have z_w7 := b7.size
                  clear b7
                  obtain ⟨_, gs0, gs1, gs2⟩ := hWGv.rows
                  have hfs := stamp_fit hWGv.nice.shown
                  have hst := HPUT.out.nice.2.2
                  have hft := stamp_fit hst
                  have hc4 := hIV.cap2.2
                  have HC4 : Hid (Calls Tryz.prog 14 #[.slice p2 g.shown.length d2, .slice R.s4 R.ss.length R.d4] w7 fun e w' => (∃ v, e = .returned (.int .i64 v) ∧ IsOrd g.shown R.ss v) ∧ Below w7.heap.size w7 w') := implOrder_any p2 R.s4 d2 R.d4 g.shown R.ss w7 hfs.1 hft.1 hcs hc4 gs2 hIV.ss.row hfs.2 hft.2
                  clear gs0 gs1 gs2 hfs hft hst
                  obtain ⟨m0, m1, m2, _, _, _⟩ := id hWGv.tG
                  obtain ⟨n0, n1, _, _⟩ := id dSV
                  go_wp2_with fail
                  refine Calls.mono HC4.out ?_
                  rintro e w8 ⟨⟨ov, rfl, ho⟩, b8⟩
                  have eo := HORD.out ov ho
                  subst eo
                  clear HC4 ho HORD m0 m1 m2 n0 n1
                  replace hIV := hIV.below b8
                  replace hIS := hIS.below b8
                  replace tTV := tTV.keep b8
                  replace tTS := tTS.keep b8
                  replace dSV := dSV.keep b8
                  replace dSS := dSS.keep b8
                  replace hWGv := hWGv.keep b8
                  replace hWHv := hWHv.keep b8
                  replace bV2 : Below w2.heap.size w2 w8 := bV2.trans (b8.mono bV2.size)
                  have z_w8 := b8.size
                  clear b8
                  have hWG6 := hWGv.put (d0' := R.d0) (d1' := R.d1) (d2' := R.d2) hIV.map hnice hIV.sg (by omega) (.inl (by omega)) (fun j e => by cases e) (fun j e => by cases e)
                  have sp6 : Span w2.heap.size (w2.heap.size + 1) w8 (((w8.setCell ⟨w2.heap.size, 0, none⟩ (.slice R.s0 R.g.ins.length R.d0)).setCell ⟨w2.heap.size, 1, none⟩ (.slice R.s1 R.L.length R.d1)).setCell ⟨w2.heap.size, 2, none⟩ (.slice R.s2 R.g.shown.length R.d2)) := (((Span.refl _ _ _).setCell (Nat.le_refl _) (Nat.lt_succ_self _) _ _).setCell (Nat.le_refl _) (Nat.lt_succ_self _) _ _).setCell (Nat.le_refl _) (Nat.lt_succ_self _) _ _
                  have HG6 : Hid (∃ G6, (((w8.setCell ⟨w2.heap.size, 0, none⟩ (.slice R.s0 R.g.ins.length R.d0)).setCell ⟨w2.heap.size, 1, none⟩ (.slice R.s1 R.L.length R.d1)).setCell ⟨w2.heap.size, 2, none⟩ (.slice R.s2 R.g.shown.length R.d2)) = G6) := ⟨_, rfl⟩
                  obtain ⟨G6, hG6⟩ := HG6.out
                  clear HG6
                  rw [hG6] at hWG6 sp6
                  have HG6 : Hid ((((w8.setCell ⟨w2.heap.size, 0, none⟩ (.slice R.s0 R.g.ins.length R.d0)).setCell ⟨w2.heap.size, 1, none⟩ (.slice R.s1 R.L.length R.d1)).setCell ⟨w2.heap.size, 2, none⟩ (.slice R.s2 R.g.shown.length R.d2)) = G6) := hG6
                  clear hG6
                  have hWH6 := hWHv.far sp6 (by omega) (by omega)
                  have tTS6 := tTS.span sp6 (by omega)
                  have hIS6 := hIS.span sp6 (by omega)
                  have hWH7 := hWH6.put (d0' := RS.d0) (d1' := RS.d1) (d2' := RS.d2) HMAP.out.1 hnice (HMAP.out.2 _ hIS6) (by have := hIS6.o4; omega) (.inl (by omega)) (fun j e => by cases e) (fun j e => by cases e)
                  have sp7 : Span bH (bH + 1) G6 (((G6.setCell ⟨bH, 0, none⟩ (.slice RS.s0 R.g.ins.length RS.d0)).setCell ⟨bH, 1, none⟩ (.slice RS.s1 RS.L.length RS.d1)).setCell ⟨bH, 2, none⟩ (.slice RS.s2 R.g.shown.length RS.d2)) := (((Span.refl _ _ _).setCell (Nat.le_refl _) (Nat.lt_succ_self _) _ _).setCell (Nat.le_refl _) (Nat.lt_succ_self _) _ _).setCell (Nat.le_refl _) (Nat.lt_succ_self _) _ _
                  have HH7 : Hid (∃ H7, (((G6.setCell ⟨bH, 0, none⟩ (.slice RS.s0 R.g.ins.length RS.d0)).setCell ⟨bH, 1, none⟩ (.slice RS.s1 RS.L.length RS.d1)).setCell ⟨bH, 2, none⟩ (.slice RS.s2 R.g.shown.length RS.d2)) = H7) := ⟨_, rfl⟩
                  obtain ⟨H7, hH7⟩ := HH7.out
                  clear HH7
                  rw [hH7] at hWH7 sp7
                  have HH7 : Hid ((((G6.setCell ⟨bH, 0, none⟩ (.slice RS.s0 R.g.ins.length RS.d0)).setCell ⟨bH, 1, none⟩ (.slice RS.s1 RS.L.length RS.d1)).setCell ⟨bH, 2, none⟩ (.slice RS.s2 R.g.shown.length RS.d2)) = H7) := hH7
                  clear hH7
                  have hWG7 := hWG6.far sp7 (by omega) (by omega)
                  have bV7 : Below w2.heap.size w2 H7 := (bV2.trans (sp6.below (Nat.le_refl _) bV2.size)).trans (sp7.below (by omega) (Nat.le_trans bV2.size sp6.size))
                  have hcap7 := hIV.cap
                  have hcs7 := hIV.cap2.1
                  have gr2 := hWG7.rows.2.2.2
                  have hr1 := hWH7.rows.2.2.1
                  have lH := hWH7.rows.1
                  have HCOV := bsCovers_any RS.s1 R.s2 RS.d1 R.d2 R.g.wins R.g.shown _ hnice.wins (by have := HT.out.1.gat.wins.1; exact this) hnice.items hnice.shown hcs7 hr1 gr2 HT.out.1.cov
                  rw [← lH] at HCOV
                  have HCV : Hid (Calls Tryz.prog 15 #[.slice RS.s1 RS.L.length RS.d1, .slice R.s2 R.g.shown.length R.d2] H7 fun e w' => e = .returned (.bool true) ∧ Below H7.heap.size H7 w') := HCOV
                  obtain ⟨y0, y1, y2, y3, y4, y5⟩ := id hWGv.tG
                  obtain ⟨m0, m1, m2, _, _, _⟩ := id tTV
                  obtain ⟨n0, n1, n2, _, _, _⟩ := id tTS6
                  obtain ⟨v0, v1, v2, v3, v4, v5⟩ := id hWH6.tG
                  have a2 := hWG7.tG.c2
                  have a1 := hWH7.tG.c1
                  have HFIN : Hid (PlyW (w2.heap.size + 1) H7 w2.heap.size R.tl R.h1 R.g R.L R.s0 R.s1 R.s2 R.d0 R.d1 R.d2 (.slice none 0 0) (.slice none 0 0) [] [] ∧ PlyW (bH + 1) H7 bH RS.tl RS.th R.g RS.L RS.s0 RS.s1 RS.s2 RS.d0 RS.d1 RS.d2 (.slice none 0 0) (.slice none 0 0) [] [] ∧ Below w2.heap.size w2 H7) := ⟨hWG7, hWH7, bV7⟩
                  have HO : Hid ((bH < R.tl ∨ R.h1 ≤ bH) ∧ (w2.heap.size < RS.tl ∨ RS.th ≤ w2.heap.size)) := ⟨.inl (by omega), .inl (by omega)⟩
                  have h2' : (R.code != 2) = true := by rw [bne_iff_ne]; exact h2
                  clear hWG6 hWH6 hWG7 hWH7 bV7 gr2 hr1 lH HCOV hIV hIS hIS6 tTV tTS tTS6 dSV dSS hWGv hWHv sp6 sp7 bV2
                  go_wp2_with (first | rw [HG6.out] | rw [HH7.out])
                  refine Calls.mono HCV.out ?_
                  rintro e w9 ⟨rfl, b9⟩
                  have f1' := HFIN.out.1.keep b9
                  have f2' := HFIN.out.2.1.keep b9
                  have f3' := HFIN.out.2.2.trans (b9.mono HFIN.out.2.2.size)
                  clear HFIN b9 HCV HG6 HH7 a1 a2 n0 n1 n2 v0 v1 v2 v3 v4 v5 y0 y1 y2 y3 y4 y5 m0 m1 m2
                  go_wp2_with fail
                  exact ⟨⟨k + 1, R.tl, R.h1, RS.tl, RS.th, R.g, R.L, RS.L, R.s0, R.s1, R.s2, RS.s0, RS.s1, RS.s2, R.d0, R.d1, R.d2, RS.d0, RS.d1, RS.d2, by omega, by go_num, f1', f2', HO.out.1, HO.out.2, hcap7, hcs7, HT.out.1, f3'⟩, by simp [intOf]; omega⟩
                · have h1' : (R.code == 1) = false := by rw [beq_eq_false_iff_ne]; omega
                  have hWG6 := hWGv.put (d0' := R.d0) (d1' := R.d1) (d2' := R.d2) hIV.map hnice hIV.sg (by omega) (.inl (by omega)) (fun j e => by cases e) (fun j e => by cases e)
                  have sp6 : Span w2.heap.size (w2.heap.size + 1) w6 (((w6.setCell ⟨w2.heap.size, 0, none⟩ (.slice R.s0 R.g.ins.length R.d0)).setCell ⟨w2.heap.size, 1, none⟩ (.slice R.s1 R.L.length R.d1)).setCell ⟨w2.heap.size, 2, none⟩ (.slice R.s2 R.g.shown.length R.d2)) := (((Span.refl _ _ _).setCell (Nat.le_refl _) (Nat.lt_succ_self _) _ _).setCell (Nat.le_refl _) (Nat.lt_succ_self _) _ _).setCell (Nat.le_refl _) (Nat.lt_succ_self _) _ _
                  have HG6 : Hid (∃ G6, (((w6.setCell ⟨w2.heap.size, 0, none⟩ (.slice R.s0 R.g.ins.length R.d0)).setCell ⟨w2.heap.size, 1, none⟩ (.slice R.s1 R.L.length R.d1)).setCell ⟨w2.heap.size, 2, none⟩ (.slice R.s2 R.g.shown.length R.d2)) = G6) := ⟨_, rfl⟩
                  obtain ⟨G6, hG6⟩ := HG6.out
                  clear HG6
                  rw [hG6] at hWG6 sp6
                  have HG6 : Hid ((((w6.setCell ⟨w2.heap.size, 0, none⟩ (.slice R.s0 R.g.ins.length R.d0)).setCell ⟨w2.heap.size, 1, none⟩ (.slice R.s1 R.L.length R.d1)).setCell ⟨w2.heap.size, 2, none⟩ (.slice R.s2 R.g.shown.length R.d2)) = G6) := hG6
                  clear hG6
                  have hWH6 := hWHv.far sp6 (by omega) (by omega)
                  have tTS6 := tTS.span sp6 (by omega)
                  have hIS6 := hIS.span sp6 (by omega)
                  have hWH7 := hWH6.put (d0' := RS.d0) (d1' := RS.d1) (d2' := RS.d2) HMAP.out.1 hnice (HMAP.out.2 _ hIS6) (by have := hIS6.o4; omega) (.inl (by omega)) (fun j e => by cases e) (fun j e => by cases e)
                  have sp7 : Span bH (bH + 1) G6 (((G6.setCell ⟨bH, 0, none⟩ (.slice RS.s0 R.g.ins.length RS.d0)).setCell ⟨bH, 1, none⟩ (.slice RS.s1 RS.L.length RS.d1)).setCell ⟨bH, 2, none⟩ (.slice RS.s2 R.g.shown.length RS.d2)) := (((Span.refl _ _ _).setCell (Nat.le_refl _) (Nat.lt_succ_self _) _ _).setCell (Nat.le_refl _) (Nat.lt_succ_self _) _ _).setCell (Nat.le_refl _) (Nat.lt_succ_self _) _ _
                  have HH7 : Hid (∃ H7, (((G6.setCell ⟨bH, 0, none⟩ (.slice RS.s0 R.g.ins.length RS.d0)).setCell ⟨bH, 1, none⟩ (.slice RS.s1 RS.L.length RS.d1)).setCell ⟨bH, 2, none⟩ (.slice RS.s2 R.g.shown.length RS.d2)) = H7) := ⟨_, rfl⟩
                  obtain ⟨H7, hH7⟩ := HH7.out
                  clear HH7
                  rw [hH7] at hWH7 sp7
                  have HH7 : Hid ((((G6.setCell ⟨bH, 0, none⟩ (.slice RS.s0 R.g.ins.length RS.d0)).setCell ⟨bH, 1, none⟩ (.slice RS.s1 RS.L.length RS.d1)).setCell ⟨bH, 2, none⟩ (.slice RS.s2 R.g.shown.length RS.d2)) = H7) := hH7
                  clear hH7
                  have hWG7 := hWG6.far sp7 (by omega) (by omega)
                  have bV7 : Below w2.heap.size w2 H7 := (bV2.trans (sp6.below (Nat.le_refl _) bV2.size)).trans (sp7.below (by omega) (Nat.le_trans bV2.size sp6.size))
                  have hcap7 := hIV.cap
                  have hcs7 := hIV.cap2.1
                  have gr2 := hWG7.rows.2.2.2
                  have hr1 := hWH7.rows.2.2.1
                  have lH := hWH7.rows.1
                  have HCOV := bsCovers_any RS.s1 R.s2 RS.d1 R.d2 R.g.wins R.g.shown _ hnice.wins (by have := HT.out.1.gat.wins.1; exact this) hnice.items hnice.shown hcs7 hr1 gr2 HT.out.1.cov
                  rw [← lH] at HCOV
                  have HCV : Hid (Calls Tryz.prog 15 #[.slice RS.s1 RS.L.length RS.d1, .slice R.s2 R.g.shown.length R.d2] H7 fun e w' => e = .returned (.bool true) ∧ Below H7.heap.size H7 w') := HCOV
                  obtain ⟨y0, y1, y2, y3, y4, y5⟩ := id hWGv.tG
                  obtain ⟨m0, m1, m2, _, _, _⟩ := id tTV
                  obtain ⟨n0, n1, n2, _, _, _⟩ := id tTS6
                  obtain ⟨v0, v1, v2, v3, v4, v5⟩ := id hWH6.tG
                  have a2 := hWG7.tG.c2
                  have a1 := hWH7.tG.c1
                  have HFIN : Hid (PlyW (w2.heap.size + 1) H7 w2.heap.size R.tl R.h1 R.g R.L R.s0 R.s1 R.s2 R.d0 R.d1 R.d2 (.slice none 0 0) (.slice none 0 0) [] [] ∧ PlyW (bH + 1) H7 bH RS.tl RS.th R.g RS.L RS.s0 RS.s1 RS.s2 RS.d0 RS.d1 RS.d2 (.slice none 0 0) (.slice none 0 0) [] [] ∧ Below w2.heap.size w2 H7) := ⟨hWG7, hWH7, bV7⟩
                  have HO : Hid ((bH < R.tl ∨ R.h1 ≤ bH) ∧ (w2.heap.size < RS.tl ∨ RS.th ≤ w2.heap.size)) := ⟨.inl (by omega), .inl (by omega)⟩
                  have h2' : (R.code != 2) = true := by rw [bne_iff_ne]; exact h2
                  clear hWG6 hWH6 hWG7 hWH7 bV7 gr2 hr1 lH HCOV hIV hIS hIS6 tTV tTS tTS6 dSV dSS hWGv hWHv sp6 sp7 bV2
                  go_wp2_with (first | rw [HG6.out] | rw [HH7.out])
                  refine Calls.mono HCV.out ?_
                  rintro e w9 ⟨rfl, b9⟩
                  have f1' := HFIN.out.1.keep b9
                  have f2' := HFIN.out.2.1.keep b9
                  have f3' := HFIN.out.2.2.trans (b9.mono HFIN.out.2.2.size)
                  clear HFIN b9 HCV HG6 HH7 a1 a2 n0 n1 n2 v0 v1 v2 v3 v4 v5 y0 y1 y2 y3 y4 y5 m0 m1 m2
                  go_wp2_with fail
                  exact ⟨⟨k + 1, R.tl, R.h1, RS.tl, RS.th, R.g, R.L, RS.L, R.s0, R.s1, R.s2, RS.s0, RS.s1, RS.s2, R.d0, R.d1, R.d2, RS.d0, RS.d1, RS.d2, by omega, by go_num, f1', f2', HO.out.1, HO.out.2, hcap7, hcs7, HT.out.1, f3'⟩, by simp [intOf]; omega⟩
          · have h40' : decide ((k : Int) < 40) = false := decide_eq_false (by omega)
            go_wp2_with fail
            go_ret
            exact ⟨rfl, BW⟩
        · have hlt' : decide ((k : Int) < (fs.length : Int)) = false := decide_eq_false (by omega)
          go_wp2_with fail
          go_ret
          exact ⟨rfl, BW⟩
    · exact absurd (hN.one HIN.out).2 (by simp)
  · have HIN : Hid (IsN ins [] false) := hN
    clear hE hN b2
    have bA : Below w2.heap.size w2 (w2.alloc (.cells #[.slice none 0 0, .slice none 0 0, .slice none 0 0] 30)) := (Below.refl _ _).alloc (Nat.le_refl _) _
    have tA := tri_new w2 (.slice none 0 0) (.slice none 0 0) (.slice none 0 0) 30
    have hriA := hri.below bA
    have BA : Below w.heap.size w (w2.alloc (.cells #[.slice none 0 0, .slice none 0 0, .slice none 0 0] 30)) := B.trans (bA.mono B.size)
    clear hri bA het hrf B z1 z2
    go_wp2_with fail
    generalize w2.alloc (.cells #[.slice none 0 0, .slice none 0 0, .slice none 0 0] 30) = W2 at *
    refine (specGN_any ia ic ins W2 hil hriA hs8).mono ?_
    rintro e w3 ⟨hE, b3⟩
    rcases hE.start with ⟨t0, f0, t1, f1, t2, f2, Lv, rfl, hN, hmap, hsg, hcapH⟩ | ⟨rfl, hN⟩
    · exact absurd (HIN.out.one hN).2 (by simp)
    · clear hE hN
      have bA : Below w3.heap.size w3 (w3.alloc (.cells #[.slice none 0 0, .slice none 0 0, .slice none 0 0] 30)) := (Below.refl _ _).alloc (Nat.le_refl _) _
      obtain ⟨x0, x1, x2, _, _, _⟩ := id (tA.keep b3)
      obtain ⟨y0, y1, y2, _, _, _⟩ := id ((tA.keep b3).keep bA)
      obtain ⟨v0, v1, v2, _, _, _⟩ := id (tri_new w3 (.slice none 0 0) (.slice none 0 0) (.slice none 0 0) 30)
      have B3 : Below w.heap.size w w3 := BA.trans (b3.mono BA.size)
      have B4 : Below w.heap.size w (w3.alloc (.cells #[.slice none 0 0, .slice none 0 0, .slice none 0 0] 30)) := B3.trans (bA.mono B3.size)
      have HCB : Hid (Calls Tryz.prog 9 #[.agg #[.slice none 0 0, .slice none 0 0, .slice none 0 0], .agg #[.slice none 0 0, .slice none 0 0, .slice none 0 0]] (w3.alloc (.cells #[.slice none 0 0, .slice none 0 0, .slice none 0 0] 30)) fun e w' => e = .returned (.bool true) ∧ Below (w3.alloc (.cells #[.slice none 0 0, .slice none 0 0, .slice none 0 0] 30)).heap.size (w3.alloc (.cells #[.slice none 0 0, .slice none 0 0, .slice none 0 0] 30)) w') :=
        bsGather_len none none none none none none 0 0 0 0 0 0 0 0 emptyG _ emptyG_nice.fit rfl rfl (fun k hk => absurd hk (by simp [emptyG])) (fun k hk => absurd hk (by simp [emptyG])) (fun k hk => absurd hk (by simp [emptyG])) (fun k hk => absurd hk (by simp [emptyG])) (fun k hk => absurd hk (by simp [emptyG])) (fun k hk => absurd hk (by simp [emptyG]))
      clear tA B3 BA bA hriA b3
      go_wp2_with fail
      refine Calls.mono HCB.out ?_
      rintro e w4 ⟨rfl, b4⟩
      clear HCB x0 x1 x2 y0 y1 y2 v0 v1 v2
      generalize w3.alloc (.cells #[.slice none 0 0, .slice none 0 0, .slice none 0 0] 30) = W3 at *
      replace B4 := B4.trans (b4.mono B4.size)
      clear b4
      go_wp2_with fail
      go_loopw [9] (fun iv wr => iv = .int .i64 0 ∧ Below w.heap.size w wr) (fun _ _ => 0)
      case atStart => exact ⟨rfl, B4⟩
      case round =>
        clear B4
        obtain ⟨rfl, BW⟩ := hrel
        go_wp2_with fail
        go_ret
        exact ⟨rfl, BW⟩

end Go.Proofs.YtpfhegengmlkmaaGreatDoor
