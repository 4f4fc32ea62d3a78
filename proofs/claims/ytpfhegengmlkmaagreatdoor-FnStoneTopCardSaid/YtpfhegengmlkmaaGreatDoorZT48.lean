/- Texts of this claim, one behind the other. -/
import Derived.Deep.RegionHeld3
import Derived.Test.YtpfhegengmlkmaaGreatDoorZT10
import Derived.Test.YtpfhegengmlkmaaGreatDoorZT27
import Derived.Test.YtpfhegengmlkmaaGreatDoorZT46
import Derived.Test.YtpfhegengmlkmaaGreatDoorZT47
namespace Go.Proofs.YtpfhegengmlkmaaGreatDoor
open Go.RowKit Go.BigFrame
set_option maxRecDepth 100000

/-- Which item of each window was shown. -/
def PartsP (ws : List (List ItemL)) (sv : List Int) (ss : List (ByteArray × Int)) (pl : Nat → Nat) : Prop :=
  sv.length = ws.length ∧ ∀ i, (h : i < ws.length) → (h' : i < sv.length) → ∃ hk : pl i < ws[i].length, (ws[i][pl i]).1 = sv[i] ∧ onlyM (namesM (ws[i][pl i]).2) ss = (ws[i][pl i]).2
theorem parts_of {ws : List (List ItemL)} {out : List Int} {ss : List (ByteArray × Int)} (hc : ChP ws out) (hj : JoinsTo ws out out.length ss) : PartsP ws (valsM ws out) ss (fun i => (out.getD i 0).toNat) := by
  have hl := hc.2.1
  refine ⟨by rw [valsM_len]; exact hl, fun i h h' => ?_⟩
  have ho : i < out.length := by omega
  obtain ⟨q, e⟩ := pk_eq hc.2.2.1 (i := i) ho h
  have eo : out.getD i 0 = out[i] := by simp [List.getD, ho]
  have hcut := cut_join hc hj h
  rw [e] at hcut
  simp only [eo]
  refine ⟨q, ?_, hcut⟩
  have ew : ws.getD i [] = ws[i] := by simp [List.getD, h]
  have : (valsM ws out)[i] = pkV ws out i := by simp [valsM]
  rw [this]
  unfold pkV
  have e3 : ws[i].getD (out.getD i 0).toNat (0, []) = ws[i][out[i].toNat] := by
    simp only [eo]
    simp [List.getD, q]
  rw [ew, e3]

set_option maxHeartbeats 6400000 in
theorem bsParts_any (a0 a1 a2 b1 b2 : Option Addr) (n0 c0 c1 n2 c2 d1 d2 : Nat) (ws : List (List ItemL)) (sv : List Int) (ss : List (ByteArray × Int)) (pl : Nat → Nat) (w : World) (h6 : ws.length ≤ 6) (hst : ∀ l ∈ ws, StampsP l) (hss : StampP ss) (r1 : RowW w a1 ws) (hv : RowZ w b1 sv) (hr : Row w b2 ss) (hp : PartsP ws sv ss pl) :
    Calls Tryz.prog 13 #[.agg #[.slice a0 n0 c0, .slice a1 ws.length c1, .slice a2 n2 c2], .agg #[.slice b1 sv.length d1, .slice b2 ss.length d2]] w fun e w' => e = .returned (.bool true) ∧ Below w.heap.size w w' := by
  have hb0 : Below w.heap.size w ((w.alloc (.cells #[.slice a0 n0 c0, .slice a1 ws.length c1, .slice a2 n2 c2] 30)).alloc (.cells #[.slice b1 sv.length d1, .slice b2 ss.length d2] 36)) := ((Below.refl _ _).alloc (Nat.le_refl _) _).alloc (by simp) _
  have hlt0 : w.heap.size + 1 < ((w.alloc (.cells #[.slice a0 n0 c0, .slice a1 ws.length c1, .slice a2 n2 c2] 30)).alloc (.cells #[.slice b1 sv.length d1, .slice b2 ss.length d2] 36)).heap.size := by simp
  have x1 : ((w.alloc (.cells #[.slice a0 n0 c0, .slice a1 ws.length c1, .slice a2 n2 c2] 30)).alloc (.cells #[.slice b1 sv.length d1, .slice b2 ss.length d2] 36)).cell? ⟨w.heap.size, 1, none⟩ = some (.slice a1 ws.length c1) := by simp [go_sem]
  have y0 : ((w.alloc (.cells #[.slice a0 n0 c0, .slice a1 ws.length c1, .slice a2 n2 c2] 30)).alloc (.cells #[.slice b1 sv.length d1, .slice b2 ss.length d2] 36)).cell? ⟨w.heap.size + 1, 0, none⟩ = some (.slice b1 sv.length d1) := by simp [go_sem]
  have y1 : ((w.alloc (.cells #[.slice a0 n0 c0, .slice a1 ws.length c1, .slice a2 n2 c2] 30)).alloc (.cells #[.slice b1 sv.length d1, .slice b2 ss.length d2] 36)).cell? ⟨w.heap.size + 1, 1, none⟩ = some (.slice b2 ss.length d2) := by simp [go_sem]
  have HP : Hid (PartsP ws sv ss pl) := hp
  have hlen' : ((sv.length : Int) != (ws.length : Int)) = false := by have := hp.1; simp; omega
  have hsv6 : sv.length ≤ 6 := by have := hp.1; omega
  have HSS : Hid (StampP ss) := hss
  have hss12 := hss.1
  clear hp hss
  go_enter Tryz.func13, Tryz.ntmps13
  go_wp2_with fail
  generalize (w.alloc (.cells #[.slice a0 n0 c0, .slice a1 ws.length c1, .slice a2 n2 c2] 30)).alloc (.cells #[.slice b1 sv.length d1, .slice b2 ss.length d2] 36) = W0 at *
  have HX : Hid (∀ u : World, Below W0.heap.size W0 u → u.cell? ⟨w.heap.size, 1, none⟩ = some (.slice a1 ws.length c1) ∧ u.cell? ⟨w.heap.size + 1, 0, none⟩ = some (.slice b1 sv.length d1) ∧ u.cell? ⟨w.heap.size + 1, 1, none⟩ = some (.slice b2 ss.length d2)) := fun u hu => ⟨cell_on hu (by omega) x1, cell_on hu (by omega) y0, cell_on hu (by omega) y1⟩
  clear x1 y0 y1
  go_loopw [5] (fun iv wr => ∃ i : Nat, i ≤ ws.length ∧ iv = .int .i64 i ∧ Below W0.heap.size W0 wr) (fun iv _ => ws.length - (intOf iv).toNat)
  case atStart => exact ⟨0, Nat.zero_le _, rfl, Below.refl _ _⟩
  case round =>
    obtain ⟨i, hi, rfl, hb⟩ := hrel
    obtain ⟨x1, y0, y1⟩ := HX.out _ hb
    by_cases hlt : i < ws.length
    · have hltv : i < sv.length := by have := HP.out.1; omega
      obtain ⟨hpk, hpv, hpo⟩ := HP.out.2 i hlt hltv
      have HPV : Hid ((ws[i][pl i]).1 = sv[i] ∧ onlyM (namesM (ws[i][pl i]).2) ss = (ws[i][pl i]).2) := ⟨hpv, hpo⟩
      have hsti := hst _ (List.getElem_mem hlt)
      clear hpv hpo
      go_wp2_with fail
      go_loopw [6, 7] (fun fv kv wr => ∃ (k : Nat) (fb : Bool), k ≤ ws[i].length ∧ kv = .int .i64 k ∧ fv = .bool fb ∧ Hid (pl i < k → fb = true) ∧ Below W0.heap.size W0 wr) (fun _ kv _ => ws[i].length - (intOf kv).toNat)
      case atStart => exact ⟨0, false, Nat.zero_le _, rfl, rfl, fun h => absurd h (Nat.not_lt_zero _), hb⟩
      case round =>
        clear x1 y0 y1 hb
        obtain ⟨k, fb, hk, rfl, rfl, HFB, hb⟩ := hrel
        obtain ⟨x1, y0, y1⟩ := HX.out _ hb
        have zr := hb.size
        have BR : Below w.heap.size w wr := hb0.trans (hb.mono hb0.size)
        obtain ⟨bw, ow, rfl, hbw, sw, tw, cw, _, hrw⟩ := r1.below BR i hlt
        have i0 : (0 : Int) ≤ (i : Int) := by omega
        have i1 : (i : Int) < (ws.length : Int) := by omega
        by_cases hkl : k < ws[i].length
        · obtain ⟨bi, oi, rfl, hbi, e0, vm, e1, ⟨ma, mc, rfl, hmc, hrm⟩⟩ := hrw k hkl
          obtain ⟨bz, oz, rfl, hbz, ez⟩ := hv.below BR i hltv
          have k0 : (0 : Int) ≤ (k : Int) := by omega
          have k1 : (k : Int) < (ws[i].length : Int) := by omega
          have i2 : (i : Int) < (sv.length : Int) := by omega
          have hstk := hsti.2 k hkl
          obtain ⟨x, hx⟩ : ∃ x, ws[i][k].1 = x := ⟨_, rfl⟩
          obtain ⟨m, hm⟩ : ∃ m, ws[i][k].2 = m := ⟨_, rfl⟩
          obtain ⟨y, hy⟩ : ∃ y, sv[i] = y := ⟨_, rfl⟩
          rw [hx] at e0
          rw [hm] at e1 hmc hrm hstk
          rw [hy] at ez
          have HXM : Hid (ws[i][k].1 = x ∧ ws[i][k].2 = m ∧ sv[i] = y) := ⟨hx, hm, hy⟩
          clear hx hm hy
          have bI : Below wr.heap.size wr (wr.alloc (.cells #[.int .i64 x, .slice ma m.length mc] 40)) := (Below.refl _ _).alloc (Nat.le_refl _) _
          have d0 := box0 wr (.int .i64 x) (.slice ma m.length mc) 40
          have d1' := box1 wr (.int .i64 x) (.slice ma m.length mc) 40
          have zI := box_lt wr (.cells #[.int .i64 x, .slice ma m.length mc] 40)
          have BI : Below w.heap.size w (wr.alloc (.cells #[.int .i64 x, .slice ma m.length mc] 40)) := BR.trans (bI.mono BR.size)
          have B1 : Below W0.heap.size W0 (wr.alloc (.cells #[.int .i64 x, .slice ma m.length mc] 40)) := hb.trans (bI.mono hb.size)
          have HSB : Hid (∀ u : World, Below (wr.alloc (.cells #[.int .i64 x, .slice ma m.length mc] 40)).heap.size (wr.alloc (.cells #[.int .i64 x, .slice ma m.length mc] 40)) u → u.cell? ⟨wr.heap.size, 0, none⟩ = some (.int .i64 x) ∧ u.cell? ⟨wr.heap.size, 1, none⟩ = some (.slice ma m.length mc) ∧ u.cell? ⟨w.heap.size + 1, 0, none⟩ = some (.slice (some ⟨bz, oz, none⟩) sv.length d1) ∧ u.cell? ⟨w.heap.size + 1, 1, none⟩ = some (.slice b2 ss.length d2) ∧ u.cell? ⟨bz, oz + i, none⟩ = some (.int .i64 y)) := fun u hu => ⟨cell_on hu zI d0, cell_on hu zI d1', cell_on hu (Nat.lt_of_lt_of_le (by omega) bI.size) (cell_on bI (by omega) y0), cell_on hu (Nat.lt_of_lt_of_le (by omega) bI.size) (cell_on bI (by omega) y1), cell_on hu (Nat.lt_of_lt_of_le hbz bI.size) (cell_on bI hbz ez)⟩
          have hrmI := hrm.below bI
          have hw5 := hsti.1
          have hlk := hstk.1
          clear hrm hstk hsti
          go_wp2_with fail
          generalize wr.alloc (.cells #[.int .i64 x, .slice ma m.length mc] 40) = W1 at *
          clear d0 d1' bI e0 e1 ez hrw cw x1 y0 y1 hbi hmc hst
          cases fb with
          | true =>
            refine wp_region_lat (by kernel_rfl) (by kernel_rfl) ?_
            have hne := Lat.some W1
            repeat (go_big_quiet_step (fail))
            refine wpQuiet_nil ?_
            rintro _ ⟨nq, rfl⟩
            have BN : Below W0.heap.size W0 nq.w := B1.trans (nq.h.mono B1.size)
            go_wp2_with fail
            exact ⟨⟨k + 1, true, by omega, by go_num, rfl, fun _ => rfl, BN⟩, by simp [intOf]; omega⟩
          | false =>
            by_cases hval : x = y
            · subst hval
              have hbd : Below W1.heap.size W1 W1.drew := (Below.refl _ _).drew
              have SW := HSB.out _ hbd
              refine wp_region_held_drew (S := fun u => u.cell? ⟨wr.heap.size, 0, none⟩ = some (.int .i64 x) ∧ u.cell? ⟨wr.heap.size, 1, none⟩ = some (.slice ma m.length mc) ∧ u.cell? ⟨w.heap.size + 1, 0, none⟩ = some (.slice (some ⟨bz, oz, none⟩) sv.length d1) ∧ u.cell? ⟨w.heap.size + 1, 1, none⟩ = some (.slice b2 ss.length d2) ∧ u.cell? ⟨bz, oz + i, none⟩ = some (.int .i64 x)) (by kernel_rfl) SW (fun _ => ?_)
              refine wpAnyH_take (i := 0) (v := .bool false) rfl (by kernel_rfl) (by kernel_rfl) (by kernel_rfl) (fun _ _ _ h => h) (Or.inl ⟨by rfl, ?_⟩) SW ?_
              · rintro u ⟨p1, p2, p3, p4, p5⟩
                go_simp
              simp only [Act.put, List.setIfInBounds_toArray]
              refine wpAnyH_take (i := 1) (v := .bool false) rfl (by kernel_rfl) (by kernel_rfl) (by kernel_rfl) (fun _ _ _ h => h) (Or.inl ⟨by rfl, ?_⟩) SW ?_
              · rintro u ⟨p1, p2, p3, p4, p5⟩
                go_simp
              simp only [Act.put]
              refine wpAnyH_take (i := 2) (v := .pointer (some ⟨wr.heap.size, 0, none⟩)) rfl (by kernel_rfl) (by kernel_rfl) (by kernel_rfl) (fun _ _ _ h => h) (Or.inl ⟨by kernel_rfl, ?_⟩) SW ?_
              · rintro u ⟨p1, p2, p3, p4, p5⟩
                go_simp
              simp only [Act.put]
              refine wpAnyH_take (i := 3) (v := .int .i64 x) rfl (by kernel_rfl) (by kernel_rfl) (by kernel_rfl) (fun _ _ _ h => h) (Or.inl ⟨by kernel_rfl, ?_⟩) SW ?_
              · rintro u ⟨p1, p2, p3, p4, p5⟩
                go_simp
              simp only [Act.put]
              refine wpAnyH_take (i := 4) (v := .pointer (some ⟨w.heap.size + 1, 0, none⟩)) rfl (by kernel_rfl) (by kernel_rfl) (by kernel_rfl) (fun _ _ _ h => h) (Or.inl ⟨by kernel_rfl, ?_⟩) SW ?_
              · rintro u ⟨p1, p2, p3, p4, p5⟩
                go_simp
              simp only [Act.put]
              refine wpAnyH_take (i := 5) (v := .slice (some ⟨bz, oz, none⟩) sv.length d1) rfl (by kernel_rfl) (by kernel_rfl) (by kernel_rfl) (fun _ _ _ h => h) (Or.inl ⟨by kernel_rfl, ?_⟩) SW ?_
              · rintro u ⟨p1, p2, p3, p4, p5⟩
                go_simp
              simp only [Act.put]
              refine wpAnyH_take (i := 6) (v := .int .i64 i) rfl (by kernel_rfl) (by kernel_rfl) (by kernel_rfl) (fun _ _ _ h => h) (Or.inl ⟨by kernel_rfl, ?_⟩) SW ?_
              · rintro u ⟨p1, p2, p3, p4, p5⟩
                go_simp
              simp only [Act.put]
              refine wpAnyH_take (i := 7) (v := .pointer (some ⟨bz, oz + i, none⟩)) rfl (by kernel_rfl) (by kernel_rfl) (by kernel_rfl) (fun _ _ _ h => h) (Or.inl ⟨by kernel_rfl, ?_⟩) SW ?_
              · rintro u ⟨p1, p2, p3, p4, p5⟩
                go_simp
              simp only [Act.put]
              refine wpAnyH_take (i := 8) (v := .int .i64 x) rfl (by kernel_rfl) (by kernel_rfl) (by kernel_rfl) (fun _ _ _ h => h) (Or.inl ⟨by kernel_rfl, ?_⟩) SW ?_
              · rintro u ⟨p1, p2, p3, p4, p5⟩
                go_simp
              simp only [Act.put]
              refine wpAnyH_take (i := 9) (v := .bool true) rfl (by kernel_rfl) (by kernel_rfl) (by kernel_rfl) (fun _ _ _ h => h) (Or.inl ⟨by kernel_rfl, ?_⟩) SW ?_
              · rintro u ⟨p1, p2, p3, p4, p5⟩
                go_simp
              simp only [Act.put]
              refine wpAnyH_take (i := 10) (v := .bool true) rfl (by kernel_rfl) (by kernel_rfl) (by kernel_rfl) (fun _ _ _ h => h) (Or.inl ⟨by kernel_rfl, ?_⟩) SW ?_
              · rintro u ⟨p1, p2, p3, p4, p5⟩
                go_simp
              simp only [Act.put]
              refine wpAnyH_take (i := 11) (v := .pointer (some ⟨wr.heap.size, 1, none⟩)) rfl (by kernel_rfl) (by kernel_rfl) (by kernel_rfl) (fun _ _ _ h => h) (Or.inl ⟨by kernel_rfl, ?_⟩) SW ?_
              · rintro u ⟨p1, p2, p3, p4, p5⟩
                go_simp
              simp only [Act.put]
              refine wpAnyH_take (i := 12) (v := .slice ma m.length mc) rfl (by kernel_rfl) (by kernel_rfl) (by kernel_rfl) (fun _ _ _ h => h) (Or.inl ⟨by kernel_rfl, ?_⟩) SW ?_
              · rintro u ⟨p1, p2, p3, p4, p5⟩
                go_simp
              simp only [Act.put]
              refine wpAnyH_take (i := 13) (v := .pointer (some ⟨w.heap.size + 1, 1, none⟩)) rfl (by kernel_rfl) (by kernel_rfl) (by kernel_rfl) (fun _ _ _ h => h) (Or.inl ⟨by kernel_rfl, ?_⟩) SW ?_
              · rintro u ⟨p1, p2, p3, p4, p5⟩
                go_simp
              simp only [Act.put]
              refine wpAnyH_take (i := 14) (v := .slice b2 ss.length d2) rfl (by kernel_rfl) (by kernel_rfl) (by kernel_rfl) (fun _ _ _ h => h) (Or.inl ⟨by kernel_rfl, ?_⟩) SW ?_
              · rintro u ⟨p1, p2, p3, p4, p5⟩
                go_simp
              simp only [Act.put]
              refine wpAnyH_take (i := 15) (v := .pointer (some ⟨wr.heap.size, 1, none⟩)) rfl (by kernel_rfl) (by kernel_rfl) (by kernel_rfl) (fun _ _ _ h => h) (Or.inl ⟨by kernel_rfl, ?_⟩) SW ?_
              · rintro u ⟨p1, p2, p3, p4, p5⟩
                go_simp
              simp only [Act.put]
              refine wpAnyH_take (i := 16) (v := .slice ma m.length mc) rfl (by kernel_rfl) (by kernel_rfl) (by kernel_rfl) (fun _ _ _ h => h) (Or.inl ⟨by kernel_rfl, ?_⟩) SW ?_
              · rintro u ⟨p1, p2, p3, p4, p5⟩
                go_simp
              simp only [Act.put]
              refine wpAnyH_ready (rs := [17]) (by kernel_rfl) (by simp) ?_
              refine AllReadyH.cons rfl (fun K hK => ?_) AllReadyH.nil
              rw [if_pos (by kernel_rfl)]
              go_simp
              refine (bsNames_any ma mc m _ (by omega) (hrmI.below hbd)).mono ?_
              rintro e w2 ⟨⟨vn, rfl, hg2⟩, b2'⟩
              have hb2 : Below W1.heap.size W1 w2 := hbd.trans (b2'.mono hbd.size)
              have S2 := HSB.out _ hb2
              obtain ⟨na, nc, rfl, hrn⟩ := hg2.shape
              have HNL : Hid ((namesM m).length ≤ 12) := by unfold Hid; simp [namesM]; omega
              refine hK.out _ _ S2 (fun _ => ?_)
              clear hK K SW b2' hbd
              refine wpAnyH_ready (rs := [18]) (by kernel_rfl) (by simp) ?_
              refine AllReadyH.cons rfl (fun K hK => ?_) AllReadyH.nil
              rw [if_pos (by kernel_rfl)]
              go_simp
              refine (implOnly_any b2 d2 ss na nc (namesM m) _ (by omega) (hr.below (BI.trans (hb2.mono BI.size))) (fun j hj => by have := (HSS.out.2.1 j hj).1.2.1; omega) (by have := HNL.out; omega) hrn).mono ?_
              rintro e w3 ⟨⟨vo, mo, rfl, hg3, hO⟩, b3⟩
              have hb3 : Below W1.heap.size W1 w3 := hb2.trans (b3.mono hb2.size)
              have S3 := HSB.out _ hb3
              obtain ⟨oa, oc, rfl, hro⟩ := hg3.shape
              have hmo12 := hO.stamp.1
              have HO : Hid (mo = onlyM (namesM m) ss) := hO.1 HSS.out
              refine hK.out _ _ S3 (fun _ => ?_)
              clear hK K S2 b3 hb2 hO hrn hg2
              refine wpAnyH_ready (rs := [19]) (by kernel_rfl) (by simp) ?_
              refine AllReadyH.cons rfl (fun K hK => ?_) AllReadyH.nil
              rw [if_pos (by kernel_rfl)]
              go_simp
              refine (bsMarks_any ma oa mc oc m mo _ (by unfold maxLen; omega) (by unfold maxLen; omega) (hrmI.below hb3) hro).mono ?_
              rintro e w4 ⟨⟨r4, rfl, hr4⟩, b4⟩
              have hb4 : Below W1.heap.size W1 w4 := hb3.trans (b4.mono hb3.size)
              have S4 := HSB.out _ hb4
              have B4 : Below W0.heap.size W0 w4 := B1.trans (hb4.mono B1.size)
              have HR4 : Hid (pl i < k + 1 → r4 = true) := fun h => by
                by_cases e : pl i = k
                · have h2 := HPV.out.2
                  simp only [e] at h2
                  rw [HXM.out.2.1] at h2
                  exact hr4.2 (by rw [HO.out, h2])
                · have := HFB.out (by omega)
                  cases this
              refine hK.out _ _ S4 (fun _ => ?_)
              clear hK K S3 b4 hb3 hr4
              refine wpAnyH_take (i := 20) (v := .bool r4) rfl (by kernel_rfl) (by kernel_rfl) (by kernel_rfl) (fun _ _ _ h => h) (Or.inl ⟨by kernel_rfl, ?_⟩) S4 ?_
              · rintro u ⟨p1, p2, p3, p4, p5⟩
                go_simp
              simp only [Act.put, List.setIfInBounds_toArray]
              refine wpAnyH_take (i := 21) (v := .bool r4) rfl (by kernel_rfl) (by kernel_rfl) (by kernel_rfl) (fun _ _ _ h => h) (Or.inl ⟨by rfl, ?_⟩) S4 ?_
              · rintro u ⟨p1, p2, p3, p4, p5⟩
                go_simp
              simp only [Act.put]
              refine wpAnyH_ready (rs := [22]) (by kernel_rfl) (by simp) ?_
              refine AllReadyH.cons rfl (fun K hK => ?_) AllReadyH.nil
              rw [if_pos (by rfl)]
              go_simp
              refine hK.out _ _ S4 (fun _ => ?_)
              clear hK K
              refine wpAnyH_done (by kernel_rfl) ?_ _
              go_wp2_with fail
              exact ⟨⟨k + 1, r4, by omega, by go_num, rfl, HR4, B4⟩, by simp [intOf]; omega⟩
            · have hval' : (x == y) = false := beq_eq_false_iff_ne.2 hval
              have HNE : Hid (pl i < k + 1 → False) := fun h => by
                by_cases e : pl i = k
                · have h2 := HPV.out.1
                  simp only [e] at h2
                  exact hval (HXM.out.1.symm.trans (h2.trans HXM.out.2.2))
                · have := HFB.out (by omega)
                  cases this
              clear hval
              refine wp_region_lat (by kernel_rfl) (by kernel_rfl) ?_
              have hne := Lat.some W1
              have l0 : ∀ n : Lat W1, n.w.cell? ⟨wr.heap.size, 0, none⟩ = some (.int .i64 x) := fun n => (HSB.out _ n.h).1
              have l2 : ∀ n : Lat W1, n.w.cell? ⟨w.heap.size + 1, 0, none⟩ = some (.slice (some ⟨bz, oz, none⟩) sv.length d1) := fun n => (HSB.out _ n.h).2.2.1
              have l4 : ∀ n : Lat W1, n.w.cell? ⟨bz, oz + i, none⟩ = some (.int .i64 y) := fun n => (HSB.out _ n.h).2.2.2.2
              repeat (go_big_quiet_step (fail))
              refine wpQuiet_nil ?_
              rintro _ ⟨nq, rfl⟩
              have BN : Below W0.heap.size W0 nq.w := B1.trans (nq.h.mono B1.size)
              go_wp2_with fail
              exact ⟨⟨k + 1, false, by omega, by go_num, rfl, fun h => (HNE.out h).elim, BN⟩, by simp [intOf]; omega⟩
        · obtain rfl : k = ws[i].length := by omega
          obtain rfl : fb = true := HFB.out hpk
          go_wp2_with fail
          exact ⟨⟨i + 1, by omega, by go_num, hb⟩, by simp [intOf]; omega⟩
    · go_wp2_with fail
      go_ret
      exact ⟨rfl, hb0.trans (hb.mono hb0.size)⟩

end Go.Proofs.YtpfhegengmlkmaaGreatDoor

namespace Go.Proofs.YtpfhegengmlkmaaGreatDoor

/-- What a choice counts for, the first window the quickest. -/
def radV : List Nat → List Int → Nat
  | n :: ns, p :: ps => p.toNat + n * radV ns ps
  | _, _ => 0
/-- How many there are. -/
def radC : List Nat → Nat
  | [] => 1
  | n :: ns => n * radC ns
/-- The places are there. -/
def InR (ns : List Nat) (ps : List Int) : Prop := ps.length = ns.length ∧ ∀ i, (h : i < ps.length) → (h' : i < ns.length) → 0 ≤ ps[i] ∧ ps[i] < (ns[i] : Int)
theorem InR.tail {n : Nat} {ns : List Nat} {p : Int} {ps : List Int} (h : InR (n :: ns) (p :: ps)) : InR ns ps := ⟨by simpa using h.1, fun i h1 h2 => by
  have := h.2 (i + 1) (by simpa using h1) (by simpa using h2)
  simpa using this⟩
theorem InR.head {n : Nat} {ns : List Nat} {p : Int} {ps : List Int} (h : InR (n :: ns) (p :: ps)) : 0 ≤ p ∧ p < (n : Int) := by
  have := h.2 0 (by simp) (by simp)
  simpa using this
theorem InR.cons {n : Nat} {ns : List Nat} {p : Int} {ps : List Int} (h0 : 0 ≤ p) (h1 : p < (n : Int)) (h : InR ns ps) : InR (n :: ns) (p :: ps) := ⟨by simpa using h.1, fun i h2 h3 => by
  cases i with
  | zero => simpa using ⟨h0, h1⟩
  | succ i => simpa using h.2 i (by simpa using h2) (by simpa using h3)⟩
theorem radV_lt : ∀ {ns : List Nat} {ps : List Int}, InR ns ps → radV ns ps < radC ns
  | [], [], _ => by simp [radV, radC]
  | [], p :: ps, h => by have := h.1; simp at this
  | n :: ns, [], h => by have := h.1; simp at this
  | n :: ns, p :: ps, h => by
    have h1 := h.head
    have h2 := radV_lt h.tail
    simp only [radV, radC]
    have h3 : n * (radV ns ps + 1) ≤ n * radC ns := Nat.mul_le_mul_left n h2
    rw [Nat.mul_add] at h3
    omega
/-- The choice behind one. -/
theorem rad_next : ∀ {ns : List Nat} {ps : List Int} (k : Nat) (hk : k < ps.length) (hk' : k < ns.length), InR ns ps → (∀ j, (h : j < ps.length) → (h' : j < ns.length) → j < k → (ns[j] : Int) ≤ ps[j] + 1) → ps[k] + 1 < (ns[k] : Int) →
    InR ns (List.replicate k 0 ++ (ps[k] + 1) :: ps.drop (k + 1)) ∧ radV ns (List.replicate k 0 ++ (ps[k] + 1) :: ps.drop (k + 1)) = radV ns ps + 1
  | [], _, k, _, hk', _, _, _ => by simp at hk'
  | n :: ns, [], k, hk, _, _, _, _ => by simp at hk
  | n :: ns, p :: ps, 0, _, _, hI, _, hlt => by
    have h1 := hI.head
    simp only [List.getElem_cons_zero] at hlt
    refine ⟨by simpa using InR.cons (by omega) hlt hI.tail, ?_⟩
    simp only [List.replicate_zero, List.nil_append, List.getElem_cons_zero, List.drop_succ_cons, List.drop_zero, radV]
    omega
  | n :: ns, p :: ps, k + 1, hk, hk', hI, hall, hlt => by
    have h1 := hI.head
    have h0 := hall 0 (by simp) (by simp) (by omega)
    simp only [List.getElem_cons_zero] at h0
    have ih := rad_next (ns := ns) (ps := ps) k (by simpa using hk) (by simpa using hk') hI.tail (fun j a b c => by
      have := hall (j + 1) (by simpa using a) (by simpa using b) (by omega)
      simpa using this) (by simpa using hlt)
    refine ⟨by simpa [List.replicate_succ] using InR.cons (Int.le_refl 0) (by omega) ih.1, ?_⟩
    have e : List.replicate (k + 1) (0 : Int) ++ ((p :: ps)[k + 1] + 1) :: (p :: ps).drop (k + 1 + 1) = 0 :: (List.replicate k 0 ++ (ps[k]'(by simpa using hk) + 1) :: ps.drop (k + 1)) := by
      simp [List.replicate_succ]
    rw [e]
    simp only [radV, ih.2, Nat.mul_add]
    omega

end Go.Proofs.YtpfhegengmlkmaaGreatDoor
