/- Texts of this claim, one behind the other. -/
import Derived.Test.YtpfhegengmlkmaaGreatZK28
import Derived.Test.YtpfhegengmlkmaaGreatZK29
import Derived.Test.YtpfhegengmlkmaaGreatZK32
import Derived.Test.YtpfhegengmlkmaaGreatZK40
import Derived.Test.YtpfhegengmlkmaaGreatZK41
import Derived.Test.YtpfhegengmlkmaaGreatZK42
namespace Go.Proofs.YtpfhegengmlkmaaGreat
open Go.RowKit Go.BigFrame
set_option maxRecDepth 100000
theorem maxmix_set {ls ps : List Int} {k : Nat} (h1 : k < ls.length) (h2 : k < ps.length) : ((List.zipWith max ls ps).take k ++ ls.drop k).set k (max ls[k] ps[k]) = (List.zipWith max ls ps).take (k + 1) ++ ls.drop (k + 1) := by
  have hz : k < (List.zipWith max ls ps).length := by simp; omega
  have e : ((List.zipWith max ls ps).take k).length = k := by simp; omega
  rw [List.set_append_right _ _ (by omega), e, Nat.sub_self, List.drop_eq_getElem_cons h1, List.set_cons_zero, List.take_succ_eq_append_getElem hz]
  simp
theorem maxmix_at {ls ps : List Int} {k : Nat} (h1 : k < ls.length) (h2 : k < ps.length) (h : k < ((List.zipWith max ls ps).take k ++ ls.drop k).length) : ((List.zipWith max ls ps).take k ++ ls.drop k)[k] = ls[k] := by
  rw [List.getElem_append_right (by simp; omega)]
  simp
  congr 1
  omega
theorem maxmix_len {ls ps : List Int} {k : Nat} (h1 : k ≤ ls.length) (h2 : ls.length ≤ ps.length) : ((List.zipWith max ls ps).take k ++ ls.drop k).length = ls.length := by
  simp
  omega

set_option maxHeartbeats 12800000 in
theorem lawCG_any (ab am : Option Addr) (n c n' c' : Nat) (w : World) (h : Bytes w ab n c) (hn : n ≤ maxLen) (hn' : n' ≤ maxLen) :
    Calls Tryz.prog 3 #[.slice ab n c, .slice am n' c'] w fun e w' => e = .returned (.bool true) ∧ Below w.heap.size w w' := by
  unfold maxLen at hn hn'
  obtain ⟨i0, hi, hz0, hz1, hz2⟩ := info_parts Tryz.infoZ
  go_enter Tryz.func3, Tryz.ntmps3
  by_cases hbig : 1048576 < n
  · have hbig' : decide ((1048576 : Int) < (n : Int)) = true := by simp; omega
    go_wp2_with fail
    go_ret
    exact ⟨rfl, Below.refl _ _⟩
  have hbig' : decide ((1048576 : Int) < (n : Int)) = false := by simp; omega
  by_cases hbig2 : 1048576 < n'
  · have hbig2' : decide ((1048576 : Int) < (n' : Int)) = true := by simp; omega
    go_wp2_with fail
    go_ret
    exact ⟨rfl, Below.refl _ _⟩
  have hbig2' : decide ((1048576 : Int) < (n' : Int)) = false := by simp; omega
  go_wp2_with fail
  refine (drawCB_any ab n c _ h).mono ?_
  rintro e w1 ⟨hE, B⟩
  obtain ⟨ws, a, cp, rfl, hW12, hfew, hrw⟩ := hE
  have hfit := hfew.fit (by omega)
  clear h hbig hbig' hbig2 hbig2'
  go_wp2_with fail
  refine (implCB_any a cp ws w1 hfit hrw).mono ?_
  rintro e w2 ⟨hE, b2⟩
  replace hrw := hrw.below b2
  replace B := B.trans (b2.mono B.size)
  rcases hE with ⟨gp, cq, out, rfl, hbest, hgp, hnb⟩ | ⟨rfl, hbest⟩
  · have HB : Hid (BestP ws out true) := hbest
    have HCH : Hid (ChP ws out) := best_in hbest
    have HOL : Hid (out.length = ws.length) := HCH.out.2.1
    have h6 : ws.length ≤ 6 := HCH.out.1.2.1
    have h1w : 1 ≤ ws.length := HCH.out.1.1
    have hol : out.length ≤ 6 := by have := HOL.out; omega
    clear hbest b2 hgp
    go_wp2_with fail
    refine (specCB_any a cp ws w2 hfit hrw).mono ?_
    rintro e w3 ⟨hE, b3⟩
    rcases hE with ⟨gs, cs, out', rfl, hbest', hgs, hnb'⟩ | ⟨rfl, hbest'⟩
    · obtain ⟨eo, _⟩ := BestP.one HB.out hbest'
      subst eo
      replace hrw := hrw.below b3
      replace B := B.trans (b3.mono B.size)
      replace hnb := hnb.below b3
      have HC : Hid (Calls Tryz.prog 8 #[.slice (some ⟨gp, 0, none⟩) out.length cq, .slice (some ⟨gs, 0, none⟩) out.length cs] w3 fun e w' => e = .returned (.bool true) ∧ Below w3.heap.size w3 w') := bsInts_same (some ⟨gp, 0, none⟩) (some ⟨gs, 0, none⟩) cq cs out w3 (by unfold maxLen; omega) hnb.row hnb'.row
      clear hbest' hgs hnb' b3
      go_wp2_with fail
      refine Calls.mono HC.out ?_
      rintro e w4 ⟨rfl, b4⟩
      replace hrw := hrw.below b4
      replace B := B.trans (b4.mono B.size)
      replace hnb := hnb.below b4
      clear b4 HC
      go_wp2_with fail
      refine (implCC_any a cp ws w4 hfit hrw).mono ?_
      rintro e w5 ⟨⟨nn, rfl, hcnt⟩, b5⟩
      have hpos : 0 < nn := (cnt_ok hcnt HB.out).1 rfl
      have hpos' : decide ((0 : Int) < (nn : Int)) = true := decide_eq_true (by omega)
      replace hrw := hrw.below b5
      replace B := B.trans (b5.mono B.size)
      replace hnb := hnb.below b5
      clear b5 hcnt
      go_wp2_with fail
      refine (implChA_any a (some ⟨gp, 0, none⟩) cp cq ws out w5 hfit hrw (by unfold maxLen; omega) hnb.row).mono ?_
      rintro e w6 ⟨⟨r6, rfl, hr6⟩, b6⟩
      obtain rfl : r6 = true := hr6.2 HCH.out
      replace hrw := hrw.below b6
      replace B := B.trans (b6.mono B.size)
      replace hnb := hnb.below b6
      clear b6 hr6 hpos hpos'
      have hmk : ∀ u : World, (Instr.makeSlice 25 (.int .i64 (ws.length : Int)) (.int .i64 (ws.length : Int))).run Tryz.prog u = .ok (.slice (some ⟨u.heap.size, 0, none⟩) ws.length ws.length) (u.alloc (.cells (madeCells #[.int .i64 0] ws.length) 3)) := fun u => by
        have h := run_make (P := Tryz.prog) u 25 3 i0 (.int .i64 0) Tryz.underlying25 hi hz0 .i64 .i64 (ws.length : Int) (ws.length : Int) (by omega) (Int.le_refl _) (by rw [hz2]; omega) (by omega)
        simpa [hz1, Value.cells] using h
      have hw5 : ∀ k, (h : k < ws.length) → ws[k].length ≤ 5 := fun k h => (winP_stamps (HCH.out.1.2.2 k h)).1
      have HZ : Hid (InR (lensN ws) (List.replicate ws.length 0)) := inR_zero fun j h => by
        have h2 := HCH.out.2.2.1.2 j (by have := HOL.out; omega)
        simp only [List.getD_eq_getElem?_getD, List.getElem?_eq_getElem h, Option.getD_some] at h2
        omega
      have hnb0 := numB_zero w6 ws.length
      have hb1 : Below w6.heap.size w6 (w6.alloc (.cells (madeCells #[.int .i64 0] ws.length) 3)) := (Below.refl _ _).alloc (Nat.le_refl _) _
      go_wp2_with fail
      generalize w6.alloc (.cells (madeCells #[.int .i64 0] ws.length) 3) = W1 at *
      go_loopg [10, 11, 12] (radC (lensN ws)) (fun gk pv lv av wx => Below w6.heap.size w6 wx ∧ (lv = .slice none 0 0 ∨ ∃ gL cL lL, lv = .slice (some ⟨gL, 0, none⟩) (List.length lL) cL ∧ NumB wx gL lL ∧ Hid (ChP ws lL)) ∧ (av = .bool false ∨ (av = .bool true ∧ ∃ g c ps, pv = .slice (some ⟨g, 0, none⟩) (List.length ps) c ∧ NumB wx g ps ∧ Hid (ps.length = ws.length) ∧ Hid (InR (lensN ws) ps) ∧ radC (lensN ws) ≤ radV (lensN ws) ps + gk)))
      case atStart => exact ⟨hb1, .inl rfl, .inr ⟨rfl, w6.heap.size, ws.length, List.replicate ws.length 0, by simp, hnb0, by unfold Hid; simp, HZ, by omega⟩⟩
      case round =>
        clear hnb0 hb1 HZ
        obtain ⟨hb, hlast, hm⟩ := hrel
        rcases hm with rfl | ⟨rfl, g, c9, ps, rfl, hnp, HL, HI, hgk⟩
        · have BW := B.trans (hb.mono B.size)
          clear hlast hb
          go_wp2_with fail
          go_ret
          exact ⟨rfl, BW⟩
        · have hlt := radV_lt HI.out
          have hps : ps.length ≤ 6 := by have := HL.out; omega
          have hps1 : 1 ≤ ps.length := by have := HL.out; omega
          go_wp2_with fail
          refine (specChoiceAgrees_any a cp ws (some ⟨g, 0, none⟩) c9 ps _ hfit (hrw.below hb) (by unfold maxLen; omega) hnp.row).mono ?_
          rintro e w8 ⟨⟨r8, rfl, hr8⟩, b8⟩
          have hnp8 := hnp.below b8
          have B8 : Below w6.heap.size w6 w8 := hb.trans (b8.mono hb.size)
          have last8 : ∀ v : World, Below w8.heap.size w8 v → (u11 = .slice none 0 0 ∨ ∃ gL cL lL, u11 = .slice (some ⟨gL, 0, none⟩) (List.length lL) cL ∧ NumB v gL lL ∧ Hid (ChP ws lL)) := fun v hv => hlast.imp id fun ⟨g1, c1, ls, e, h1, h2⟩ => ⟨g1, c1, ls, e, (h1.below b8).below hv, h2⟩
          clear b8 hnp hb hlast
          cases r8 with
          | false =>
            clear hr8
            go_wp2_with fail
            refine (bsNext_any a (some ⟨g, 0, none⟩) cp c9 ws ps w8 h6 hw5 hps1 HL.out (hrw.below B8) hnp8.row HI.out).mono ?_
            rintro e w9 ⟨⟨g9, c10, qs, r9, rfl, hq9, _, hnb9, hs9⟩, b9⟩
            have B9 : Below w6.heap.size w6 w9 := B8.trans (b9.mono B8.size)
            have last9 := last8 _ b9
            have HQ9 : Hid (qs.length = ws.length) := hq9.trans HL.out
            clear b9 hq9
            cases r9 with
            | false =>
              clear hs9
              go_wp2_with fail
              go_roundg (gk - 1)
              case measure => omega
              case rel => exact ⟨B9, last9, .inl rfl⟩
            | true =>
              have HI9 : Hid (InR (lensN ws) qs) := (hs9 rfl).1
              have hv9 := (hs9 rfl).2
              clear hs9
              go_wp2_with fail
              go_roundg (gk - 1)
              case measure => omega
              case rel => exact ⟨B9, last9, .inr ⟨rfl, g9, c10, qs, rfl, hnb9, HQ9, HI9, by omega⟩⟩
          | true =>
            have HPS : Hid (ChP ws ps) := hr8.1 rfl
            have HMX : Hid (∀ k, (h1 : k < ps.length) → (h2 : k < out.length) → ps[k] ≤ out[k]) := fun k h1 h2 => by
              rcases HB.out with ⟨_, _, hq⟩ | ⟨e, _⟩
              · exact hq ps HPS.out k h1 h2
              · cases e
            have hnbo := hnb.below B8
            clear hr8
            go_wp2_with fail
            go_loopw [13] (fun iv wr => ∃ k : Nat, k ≤ ps.length ∧ iv = .int .i64 k ∧ Below w8.heap.size w8 wr) (fun iv _ => ps.length - (intOf iv).toNat)
            case atStart => exact ⟨0, Nat.zero_le _, rfl, Below.refl _ _⟩
            case round =>
              obtain ⟨k, hk, rfl, hb⟩ := hrel
              by_cases hltk : k < ps.length
              · have hltk' : decide ((k : Int) < (ps.length : Int)) = true := decide_eq_true (by omega)
                have hko : k < out.length := by have := HOL.out; have := HL.out; omega
                have hd : decide (out[k] < ps[k]) = false := decide_eq_false (by have := HMX.out k hltk hko; omega)
                have hbd : Below wr.heap.size wr wr.drew := (Below.refl _ _).drew
                have hb' := hb.trans (hbd.mono hb.size)
                have Sx : (fun u : World => u.cell? ⟨g, k, none⟩ = some (.int .i64 ps[k]) ∧ u.cell? ⟨gp, k, none⟩ = some (.int .i64 out[k])) wr.drew := ⟨(hnp8.below hb').cell hltk, (hnbo.below hb').cell hko⟩
                have k0 : (0 : Int) ≤ (k : Int) := by omega
                have k1 : (k : Int) < (ps.length : Int) := by omega
                have k2 : (k : Int) < (out.length : Int) := by omega
                have HK : Hid (Below w8.heap.size w8 wr.drew) := hb'
                clear hb hb' hbd
                go_wp2_with fail
                refine wp_region_held_drew (S := fun u => u.cell? ⟨g, k, none⟩ = some (.int .i64 ps[k]) ∧ u.cell? ⟨gp, k, none⟩ = some (.int .i64 out[k])) (by kernel_rfl) Sx (fun _ => ?_)
                generalize wr.drew = D at *
                refine wpAnyH_take (i := 0) (v := .slice (some ⟨g, 0, none⟩) ps.length c9) rfl (by kernel_rfl) (by kernel_rfl) (by kernel_rfl) (fun _ _ _ h => h) (Or.inl ⟨by rfl, ?_⟩) Sx ?_
                · rintro u ⟨s0, s1⟩
                  go_simp
                simp only [Act.put, List.setIfInBounds_toArray]
                refine wpAnyH_take (i := 1) (v := .int .i64 (k : Int)) rfl (by kernel_rfl) (by kernel_rfl) (by kernel_rfl) (fun _ _ _ h => h) (Or.inl ⟨by rfl, ?_⟩) Sx ?_
                · rintro u ⟨s0, s1⟩
                  go_simp
                simp only [Act.put]
                refine wpAnyH_take (i := 2) (v := .pointer (some ⟨g, k, none⟩)) rfl (by kernel_rfl) (by kernel_rfl) (by kernel_rfl) (fun _ _ _ h => h) (Or.inl ⟨by rfl, ?_⟩) Sx ?_
                · rintro u ⟨s0, s1⟩
                  go_simp
                simp only [Act.put]
                refine wpAnyH_take (i := 3) (v := .int .i64 ps[k]) rfl (by kernel_rfl) (by kernel_rfl) (by kernel_rfl) (fun _ _ _ h => h) (Or.inl ⟨by rfl, ?_⟩) Sx ?_
                · rintro u ⟨s0, s1⟩
                  go_simp
                simp only [Act.put]
                refine wpAnyH_take (i := 4) (v := .slice (some ⟨gp, 0, none⟩) out.length cq) rfl (by kernel_rfl) (by kernel_rfl) (by kernel_rfl) (fun _ _ _ h => h) (Or.inl ⟨by rfl, ?_⟩) Sx ?_
                · rintro u ⟨s0, s1⟩
                  go_simp
                simp only [Act.put]
                refine wpAnyH_take (i := 5) (v := .int .i64 (k : Int)) rfl (by kernel_rfl) (by kernel_rfl) (by kernel_rfl) (fun _ _ _ h => h) (Or.inl ⟨by rfl, ?_⟩) Sx ?_
                · rintro u ⟨s0, s1⟩
                  go_simp
                simp only [Act.put]
                refine wpAnyH_take (i := 6) (v := .pointer (some ⟨gp, k, none⟩)) rfl (by kernel_rfl) (by kernel_rfl) (by kernel_rfl) (fun _ _ _ h => h) (Or.inl ⟨by rfl, ?_⟩) Sx ?_
                · rintro u ⟨s0, s1⟩
                  go_simp
                simp only [Act.put]
                refine wpAnyH_take (i := 7) (v := .int .i64 out[k]) rfl (by kernel_rfl) (by kernel_rfl) (by kernel_rfl) (fun _ _ _ h => h) (Or.inl ⟨by rfl, ?_⟩) Sx ?_
                · rintro u ⟨s0, s1⟩
                  go_simp
                simp only [Act.put]
                refine wpAnyH_ready (rs := [8]) (by kernel_rfl) (by simp) ?_
                refine AllReadyH.cons rfl (fun K hK => ?_) AllReadyH.nil
                rw [if_pos (by rfl)]
                go_simp
                refine hK.out _ _ Sx (fun _ => ?_)
                clear hK K
                refine wpAnyH_done (by kernel_rfl) ?_ _
                clear Sx hd hnp8 hnbo last8 hrw hnb B B8 k0 k1 k2 hltk' hmk hw5 hfew hfit
                go_wp2_with fail
                exact ⟨⟨k + 1, by omega, by go_num, HK.out⟩, by simp [intOf]; omega⟩
              · have hltk' : decide ((k : Int) < (ps.length : Int)) = false := decide_eq_false (by omega)
                have hnp9 := hnp8.below hb
                have B9' : Below w6.heap.size w6 wr := B8.trans (hb.mono B8.size)
                rcases last8 wr hb with rfl | ⟨gl, cl, ls, rfl, hnl, HLS⟩
                · clear hb last8
                  go_wp2_with fail
                  refine (bsNext_any a (some ⟨g, 0, none⟩) cp c9 ws ps wr h6 hw5 hps1 HL.out (hrw.below B9') hnp9.row HI.out).mono ?_
                  rintro e w9 ⟨⟨g9, c10, qs, r9, rfl, hq9, _, hnb9, hs9⟩, b9⟩
                  have B9 : Below w6.heap.size w6 w9 := B9'.trans (b9.mono B9'.size)
                  have last9 := (.inr ⟨g, c9, ps, rfl, hnp9.below b9, HPS⟩ : ((Value.slice (some ⟨g, 0, none⟩) (List.length ps) c9) = .slice none 0 0 ∨ ∃ gL cL lL, (Value.slice (some ⟨g, 0, none⟩) (List.length ps) c9) = .slice (some ⟨gL, 0, none⟩) (List.length lL) cL ∧ NumB w9 gL lL ∧ Hid (ChP ws lL)))
                  have HQ9 : Hid (qs.length = ws.length) := hq9.trans HL.out
                  clear b9 hq9
                  cases r9 with
                  | false =>
                    clear hs9
                    go_wp2_with fail
                    go_roundg (gk - 1)
                    case measure => omega
                    case rel => exact ⟨B9, last9, .inl rfl⟩
                  | true =>
                    have HI9 : Hid (InR (lensN ws) qs) := (hs9 rfl).1
                    have hv9 := (hs9 rfl).2
                    clear hs9
                    go_wp2_with fail
                    go_roundg (gk - 1)
                    case measure => omega
                    case rel => exact ⟨B9, last9, .inr ⟨rfl, g9, c10, qs, rfl, hnb9, HQ9, HI9, by omega⟩⟩
                · clear hb last8
                  have HLL : Hid (ls.length = ws.length) := HLS.out.2.1
                  have hl1 : 1 ≤ ls.length := by have := HLL.out; omega
                  have hl6 : ls.length ≤ 6 := by have := HLL.out; omega
                  have hl1' : decide ((0 : Int) < (ls.length : Int)) = true := decide_eq_true (by omega)
                  obtain ⟨wo, hwo⟩ : ∃ wo, wo = wr := ⟨_, rfl⟩
                  subst hwo
                  have HPL : Hid (ps.length = ls.length) := HL.out.trans HLL.out.symm
                  by_cases hm : n' % 2 = 0
                  · have m1 : ((n' : Int) % 2 == 0) = true := by rw [beq_iff_eq]; omega
                    have m2 : ((n' : Int).tmod 2 == 0) = true := by rw [beq_iff_eq, Int.tmod_eq_emod_of_nonneg (by omega)]; omega
                    have hba : Below wo.heap.size wo (wo.alloc (.cells #[] 3)) := (Below.refl _ _).alloc (Nat.le_refl _) _
                    have hown : (wo.alloc (.cells #[] 3)).ownsRow wo.heap.size 3 1 (.slice (some ⟨wo.heap.size, 0, none⟩) 0 0) 0 [] := ⟨by simp, .inr ⟨wo.heap.size, 0, #[], rfl, Nat.le_refl _, heap_alloc_new wo _, by simp, by unfold maxLen; omega, by simp, by simp⟩⟩
                    have hnews : ∀ j u, (ls.map fun x => (.int .i64 x : Value))[j]? = some u → (wo.alloc (.cells #[] 3)).cell? ((⟨gl, 0, none⟩ : Addr).add j) = some u := fun j u hu => by
                      have hj : j < ls.length := by
                        have := (List.getElem?_eq_some_iff.1 hu).1
                        simpa using this
                      have e1 : (ls.map fun x => (.int .i64 x : Value))[j]? = some (.int .i64 ls[j]) := by simp [hj]
                      rw [e1] at hu
                      have ea : (⟨gl, 0, none⟩ : Addr).add j = ⟨gl, j, none⟩ := by
                        by_cases h0 : j = 0
                        · subst h0; simp [Addr.add]
                        · simp [Addr.add, h0]
                      rw [← Option.some.inj hu, ea]
                      exact (hnl.below hba).cell hj
                    have HKP : Hid (NumB wo g ps ∧ Below w6.heap.size w6 wo) := ⟨hnp9, B9'⟩
                    clear hnp9 B9' hnl
                    go_wp2_with (at_builtin; refine wpList_append_lies _ rfl _ _ 25 rfl wo.heap.size 3 i0 (.int .i64 0) 1 8 Tryz.underlying25 hi hz0 hz1 hz2 rfl (by decide) _ _ _ rfl hown ⟨gl, 0, none⟩ ls.length cl (ls.map fun x => .int .i64 x) rfl (by simp) hnews (by simp [Value.oneCell']) (by omega) (by unfold maxLen; omega) (by omega) (by simp) _ rfl ?_; intro gt ct wt hownt hgrt _ _; refine hid_hold ?_)
                    unfold Hid
                    have Bt : Below wo.heap.size wo wt := hba.grown hgrt (by simp) (own_from hown)
                    simp only [Nat.zero_add, List.nil_append] at hownt
                    obtain ⟨hge, hnt⟩ := NumB.own hownt rfl
                    clear hownt hgrt hown hnews hba m1 m2
                    go_wp2_with fail
                    go_loopw [15] (fun iv wz => ∃ k : Nat, k ≤ ls.length ∧ iv = .int .i64 k ∧ NumB wz gt ((List.zipWith max ls ps).take k ++ ls.drop k) ∧ Below wo.heap.size wo wz) (fun iv _ => ls.length - (intOf iv).toNat)
                    case atStart => exact ⟨0, Nat.zero_le _, rfl, by simpa using hnt, Bt⟩
                    case round =>
                      clear hnt Bt
                      obtain ⟨k, hk, rfl, hnz, hbz⟩ := hrel
                      by_cases hltz : k < ls.length
                      · have hltz' : decide ((k : Int) < (ls.length : Int)) = true := decide_eq_true (by omega)
                        have hkp : k < ps.length := by have := HPL.out; omega
                        have hbd : Below wr.heap.size wr wr.drew := (Below.refl _ _).drew
                        have hb' := hbz.trans (hbd.mono hbz.size)
                        have hnzd := hnz.below hbd
                        have k0 : (0 : Int) ≤ (k : Int) := by omega
                        have k1 : (k : Int) < (ps.length : Int) := by omega
                        have k2 : (k : Int) < (ls.length : Int) := by omega
                        by_cases hgt : ls[k] < ps[k]
                        · have hd : decide (ls[k] < ps[k]) = true := decide_eq_true hgt
                          have Sx : (fun u : World => u.cell? ⟨g, k, none⟩ = some (.int .i64 ps[k]) ∧ u.cell? ⟨gt, k, none⟩ = some (.int .i64 ls[k])) wr.drew := ⟨(HKP.out.1.below hb').cell hkp, by have q := hnzd.cell (j := k) (by rw [maxmix_len (by omega) (by have := HPL.out; omega)]; exact hltz); rw [maxmix_at hltz hkp] at q; exact q⟩
                          have HK : Hid (NumB wr.drew gt ((List.zipWith max ls ps).take k ++ ls.drop k) ∧ Below wo.heap.size wo wr.drew) := ⟨hnzd, hb'⟩
                          have fz := hnzd.frozen k
                          clear hnz hbz hnzd hb' hbd
                          go_wp2_with fail
                          refine wp_region_held_drew (S := fun u => u.cell? ⟨g, k, none⟩ = some (.int .i64 ps[k]) ∧ u.cell? ⟨gt, k, none⟩ = some (.int .i64 ls[k])) (by kernel_rfl) Sx (fun _ => ?_)
                          generalize wr.drew = D at *
                          refine wpAnyH_take (i := 0) (v := .slice (some ⟨g, 0, none⟩) ps.length c9) rfl (by kernel_rfl) (by kernel_rfl) (by kernel_rfl) (fun _ _ _ h => h) (Or.inl ⟨by rfl, ?_⟩) Sx ?_
                          · rintro u ⟨s0, s1⟩
                            go_simp
                          simp only [Act.put, List.setIfInBounds_toArray]
                          refine wpAnyH_take (i := 1) (v := .int .i64 (k : Int)) rfl (by kernel_rfl) (by kernel_rfl) (by kernel_rfl) (fun _ _ _ h => h) (Or.inl ⟨by rfl, ?_⟩) Sx ?_
                          · rintro u ⟨s0, s1⟩
                            go_simp
                          simp only [Act.put]
                          refine wpAnyH_take (i := 2) (v := .pointer (some ⟨g, k, none⟩)) rfl (by kernel_rfl) (by kernel_rfl) (by kernel_rfl) (fun _ _ _ h => h) (Or.inl ⟨by rfl, ?_⟩) Sx ?_
                          · rintro u ⟨s0, s1⟩
                            go_simp
                          simp only [Act.put]
                          refine wpAnyH_take (i := 3) (v := .int .i64 ps[k]) rfl (by kernel_rfl) (by kernel_rfl) (by kernel_rfl) (fun _ _ _ h => h) (Or.inl ⟨by rfl, ?_⟩) Sx ?_
                          · rintro u ⟨s0, s1⟩
                            go_simp
                          simp only [Act.put]
                          refine wpAnyH_take (i := 4) (v := .slice (some ⟨gt, 0, none⟩) ls.length ct) rfl (by kernel_rfl) (by kernel_rfl) (by kernel_rfl) (fun _ _ _ h => h) (Or.inl ⟨by rfl, ?_⟩) Sx ?_
                          · rintro u ⟨s0, s1⟩
                            go_simp
                          simp only [Act.put]
                          refine wpAnyH_take (i := 5) (v := .int .i64 (k : Int)) rfl (by kernel_rfl) (by kernel_rfl) (by kernel_rfl) (fun _ _ _ h => h) (Or.inl ⟨by rfl, ?_⟩) Sx ?_
                          · rintro u ⟨s0, s1⟩
                            go_simp
                          simp only [Act.put]
                          refine wpAnyH_take (i := 6) (v := .pointer (some ⟨gt, k, none⟩)) rfl (by kernel_rfl) (by kernel_rfl) (by kernel_rfl) (fun _ _ _ h => h) (Or.inl ⟨by rfl, ?_⟩) Sx ?_
                          · rintro u ⟨s0, s1⟩
                            go_simp
                          simp only [Act.put]
                          refine wpAnyH_take (i := 7) (v := .int .i64 ls[k]) rfl (by kernel_rfl) (by kernel_rfl) (by kernel_rfl) (fun _ _ _ h => h) (Or.inl ⟨by rfl, ?_⟩) Sx ?_
                          · rintro u ⟨s0, s1⟩
                            go_simp
                          simp only [Act.put]
                          refine wpAnyH_ready (rs := [8]) (by kernel_rfl) (by simp) ?_
                          refine AllReadyH.cons rfl (fun K hK => ?_) AllReadyH.nil
                          rw [if_pos (by rfl)]
                          go_simp
                          refine hK.out _ _ Sx (fun _ => ?_)
                          clear hK K
                          refine wpAnyH_done (by kernel_rfl) ?_ _
                          obtain ⟨s0, s1⟩ := Sx
                          clear hd
                          have hn9 := HK.out.1.set k ps[k]
                          have emx : max ls[k] ps[k] = ps[k] := by omega
                          rw [← emx, maxmix_set hltz hkp, emx] at hn9
                          have HN : Hid (NumB (D.setCell ⟨gt, k, none⟩ (.int .i64 ps[k])) gt ((List.zipWith max ls ps).take (k + 1) ++ ls.drop (k + 1)) ∧ Below wo.heap.size wo (D.setCell ⟨gt, k, none⟩ (.int .i64 ps[k]))) := ⟨hn9, HK.out.2.setCell (by simp only; omega) _⟩
                          clear hn9 emx HK hgt
                          go_wp2_with fail
                          exact ⟨⟨k + 1, by omega, by go_num, HN.out.1, HN.out.2⟩, by simp [intOf]; omega⟩
                        · have hd : decide (ls[k] < ps[k]) = false := decide_eq_false hgt
                          have Sx : (fun u : World => u.cell? ⟨g, k, none⟩ = some (.int .i64 ps[k]) ∧ u.cell? ⟨gt, k, none⟩ = some (.int .i64 ls[k])) wr.drew := ⟨(HKP.out.1.below hb').cell hkp, by have q := hnzd.cell (j := k) (by rw [maxmix_len (by omega) (by have := HPL.out; omega)]; exact hltz); rw [maxmix_at hltz hkp] at q; exact q⟩
                          have HK : Hid (NumB wr.drew gt ((List.zipWith max ls ps).take k ++ ls.drop k) ∧ Below wo.heap.size wo wr.drew) := ⟨hnzd, hb'⟩
                          have fz := hnzd.frozen k
                          clear hnz hbz hnzd hb' hbd
                          go_wp2_with fail
                          refine wp_region_held_drew (S := fun u => u.cell? ⟨g, k, none⟩ = some (.int .i64 ps[k]) ∧ u.cell? ⟨gt, k, none⟩ = some (.int .i64 ls[k])) (by kernel_rfl) Sx (fun _ => ?_)
                          generalize wr.drew = D at *
                          refine wpAnyH_take (i := 0) (v := .slice (some ⟨g, 0, none⟩) ps.length c9) rfl (by kernel_rfl) (by kernel_rfl) (by kernel_rfl) (fun _ _ _ h => h) (Or.inl ⟨by rfl, ?_⟩) Sx ?_
                          · rintro u ⟨s0, s1⟩
                            go_simp
                          simp only [Act.put, List.setIfInBounds_toArray]
                          refine wpAnyH_take (i := 1) (v := .int .i64 (k : Int)) rfl (by kernel_rfl) (by kernel_rfl) (by kernel_rfl) (fun _ _ _ h => h) (Or.inl ⟨by rfl, ?_⟩) Sx ?_
                          · rintro u ⟨s0, s1⟩
                            go_simp
                          simp only [Act.put]
                          refine wpAnyH_take (i := 2) (v := .pointer (some ⟨g, k, none⟩)) rfl (by kernel_rfl) (by kernel_rfl) (by kernel_rfl) (fun _ _ _ h => h) (Or.inl ⟨by rfl, ?_⟩) Sx ?_
                          · rintro u ⟨s0, s1⟩
                            go_simp
                          simp only [Act.put]
                          refine wpAnyH_take (i := 3) (v := .int .i64 ps[k]) rfl (by kernel_rfl) (by kernel_rfl) (by kernel_rfl) (fun _ _ _ h => h) (Or.inl ⟨by rfl, ?_⟩) Sx ?_
                          · rintro u ⟨s0, s1⟩
                            go_simp
                          simp only [Act.put]
                          refine wpAnyH_take (i := 4) (v := .slice (some ⟨gt, 0, none⟩) ls.length ct) rfl (by kernel_rfl) (by kernel_rfl) (by kernel_rfl) (fun _ _ _ h => h) (Or.inl ⟨by rfl, ?_⟩) Sx ?_
                          · rintro u ⟨s0, s1⟩
                            go_simp
                          simp only [Act.put]
                          refine wpAnyH_take (i := 5) (v := .int .i64 (k : Int)) rfl (by kernel_rfl) (by kernel_rfl) (by kernel_rfl) (fun _ _ _ h => h) (Or.inl ⟨by rfl, ?_⟩) Sx ?_
                          · rintro u ⟨s0, s1⟩
                            go_simp
                          simp only [Act.put]
                          refine wpAnyH_take (i := 6) (v := .pointer (some ⟨gt, k, none⟩)) rfl (by kernel_rfl) (by kernel_rfl) (by kernel_rfl) (fun _ _ _ h => h) (Or.inl ⟨by rfl, ?_⟩) Sx ?_
                          · rintro u ⟨s0, s1⟩
                            go_simp
                          simp only [Act.put]
                          refine wpAnyH_take (i := 7) (v := .int .i64 ls[k]) rfl (by kernel_rfl) (by kernel_rfl) (by kernel_rfl) (fun _ _ _ h => h) (Or.inl ⟨by rfl, ?_⟩) Sx ?_
                          · rintro u ⟨s0, s1⟩
                            go_simp
                          simp only [Act.put]
                          refine wpAnyH_ready (rs := [8]) (by kernel_rfl) (by simp) ?_
                          refine AllReadyH.cons rfl (fun K hK => ?_) AllReadyH.nil
                          rw [if_pos (by rfl)]
                          go_simp
                          refine hK.out _ _ Sx (fun _ => ?_)
                          clear hK K
                          refine wpAnyH_done (by kernel_rfl) ?_ _
                          obtain ⟨s0, s1⟩ := Sx
                          clear hd
                          have HN : Hid (NumB D gt ((List.zipWith max ls ps).take (k + 1) ++ ls.drop (k + 1))) := by
                            have emx : max ls[k] ps[k] = ls[k] := by omega
                            have q := maxmix_set hltz hkp
                            rw [emx] at q
                            have hs : ((List.zipWith max ls ps).take k ++ ls.drop k).set k ls[k] = ((List.zipWith max ls ps).take k ++ ls.drop k) := by
                              have q2 := maxmix_at hltz hkp (by rw [maxmix_len (by omega) (by have := HPL.out; omega)]; exact hltz)
                              conv => lhs; arg 3; rw [← q2]
                              exact List.set_getElem_self _
                            unfold Hid
                            rw [← q, hs]
                            exact HK.out.1
                          clear hgt s0 s1 fz
                          go_wp2_with fail
                          exact ⟨⟨k + 1, by omega, by go_num, HN.out, HK.out.2⟩, by simp [intOf]; omega⟩
                      · have hltz' : decide ((k : Int) < (ls.length : Int)) = false := decide_eq_false (by omega)
                        obtain rfl : k = ls.length := by omega
                        have ez : (List.zipWith max ls ps).take ls.length ++ ls.drop ls.length = List.zipWith max ls ps := by
                          rw [List.drop_length, List.append_nil, List.take_of_length_le (by simp; omega)]
                        rw [ez] at hnz
                        have HZC : Hid (ChP ws (List.zipWith max ls ps)) := chP_max HLS.out HPS.out
                        obtain ⟨zs, hzs⟩ : ∃ zs, zs = List.zipWith max ls ps := ⟨_, rfl⟩
                        have hzl : zs.length = ls.length := by have := HPL.out; rw [hzs]; simp; omega
                        rw [← hzs] at hnz HZC
                        have BZ : Below w6.heap.size w6 wr := HKP.out.2.trans (hbz.mono HKP.out.2.size)
                        have hnpz0 := HKP.out.1.below hbz
                        have HCZ := implChA_any a (some ⟨gt, 0, none⟩) cp ct ws zs wr hfit (hrw.below BZ) (by unfold maxLen; omega) hnz.row
                        rw [hzl] at HCZ
                        have HCZ' : Hid (Calls Tryz.prog 10 #[.slice a ws.length cp, .slice (some ⟨gt, 0, none⟩) ls.length ct] wr fun e w' => IsB (ChP ws zs) e ∧ Below wr.heap.size wr w') := HCZ
                        clear HCZ hzl hzs ez hnz hbz
                        go_wp2_with fail
                        refine Calls.mono HCZ'.out ?_
                        rintro e w12 ⟨⟨r12, rfl, hr12⟩, b12⟩
                        obtain rfl : r12 = true := hr12.2 HZC.out
                        have hnpz := hnpz0.below b12
                        have BZ2 : Below w6.heap.size w6 w12 := BZ.trans (b12.mono BZ.size)
                        clear hr12 b12 HCZ' hnpz0 BZ
                        go_wp2_with fail
                        refine (bsNext_any a (some ⟨g, 0, none⟩) cp c9 ws ps w12 h6 hw5 hps1 HL.out (hrw.below BZ2) hnpz.row HI.out).mono ?_
                        rintro e w9 ⟨⟨g9, c10, qs, r9, rfl, hq9, _, hnb9, hs9⟩, b9⟩
                        have B9 : Below w6.heap.size w6 w9 := BZ2.trans (b9.mono BZ2.size)
                        have last9 := (.inr ⟨g, c9, ps, rfl, hnpz.below b9, HPS⟩ : ((Value.slice (some ⟨g, 0, none⟩) (List.length ps) c9) = .slice none 0 0 ∨ ∃ gL cL lL, (Value.slice (some ⟨g, 0, none⟩) (List.length ps) c9) = .slice (some ⟨gL, 0, none⟩) (List.length lL) cL ∧ NumB w9 gL lL ∧ Hid (ChP ws lL)))
                        have HQ9 : Hid (qs.length = ws.length) := hq9.trans HL.out
                        clear b9 hq9
                        cases r9 with
                        | false =>
                          clear hs9
                          go_wp2_with fail
                          go_roundg (gk - 1)
                          case measure => omega
                          case rel => exact ⟨B9, last9, .inl rfl⟩
                        | true =>
                          have HI9 : Hid (InR (lensN ws) qs) := (hs9 rfl).1
                          have hv9 := (hs9 rfl).2
                          clear hs9
                          go_wp2_with fail
                          go_roundg (gk - 1)
                          case measure => omega
                          case rel => exact ⟨B9, last9, .inr ⟨rfl, g9, c10, qs, rfl, hnb9, HQ9, HI9, by omega⟩⟩
                  · have m1 : ((n' : Int) % 2 == 0) = false := by rw [beq_eq_false_iff_ne]; omega
                    have m2 : ((n' : Int).tmod 2 == 0) = false := by rw [beq_eq_false_iff_ne, Ne, Int.tmod_eq_emod_of_nonneg (by omega)]; omega
                    have hnpz := hnp9
                    clear hnl
                    go_wp2_with fail
                    refine (bsNext_any a (some ⟨g, 0, none⟩) cp c9 ws ps wo h6 hw5 hps1 HL.out (hrw.below B9') hnp9.row HI.out).mono ?_
                    rintro e w9 ⟨⟨g9, c10, qs, r9, rfl, hq9, _, hnb9, hs9⟩, b9⟩
                    have B9 : Below w6.heap.size w6 w9 := B9'.trans (b9.mono B9'.size)
                    have last9 := (.inr ⟨g, c9, ps, rfl, hnpz.below b9, HPS⟩ : ((Value.slice (some ⟨g, 0, none⟩) (List.length ps) c9) = .slice none 0 0 ∨ ∃ gL cL lL, (Value.slice (some ⟨g, 0, none⟩) (List.length ps) c9) = .slice (some ⟨gL, 0, none⟩) (List.length lL) cL ∧ NumB w9 gL lL ∧ Hid (ChP ws lL)))
                    have HQ9 : Hid (qs.length = ws.length) := hq9.trans HL.out
                    clear b9 hq9
                    cases r9 with
                    | false =>
                      clear hs9
                      go_wp2_with fail
                      go_roundg (gk - 1)
                      case measure => omega
                      case rel => exact ⟨B9, last9, .inl rfl⟩
                    | true =>
                      have HI9 : Hid (InR (lensN ws) qs) := (hs9 rfl).1
                      have hv9 := (hs9 rfl).2
                      clear hs9
                      go_wp2_with fail
                      go_roundg (gk - 1)
                      case measure => omega
                      case rel => exact ⟨B9, last9, .inr ⟨rfl, g9, c10, qs, rfl, hnb9, HQ9, HI9, by omega⟩⟩
    · exact absurd (BestP.one HB.out hbest').2 (by simp)
  · have HB : Hid (BestP ws [] false) := hbest
    clear hbest b2
    go_wp2_with fail
    refine (specCB_any a cp ws w2 hfit hrw).mono ?_
    rintro e w3 ⟨hE, b3⟩
    rcases hE with ⟨gs, cs, out', rfl, hbest', hgs, hnb'⟩ | ⟨rfl, hbest'⟩
    · exact absurd (BestP.one HB.out hbest').2 (by simp)
    · replace hrw := hrw.below b3
      replace B := B.trans (b3.mono B.size)
      have HC : Hid (Calls Tryz.prog 8 #[.slice none 0 0, .slice none 0 0] w3 fun e w' => e = .returned (.bool true) ∧ Below w3.heap.size w3 w') := bsInts_same none none 0 0 [] w3 (by simp) (fun k hk => absurd hk (Nat.not_lt_zero k)) (fun k hk => absurd hk (Nat.not_lt_zero k))
      clear hbest' b3
      go_wp2_with fail
      refine Calls.mono HC.out ?_
      rintro e w4 ⟨rfl, b4⟩
      replace hrw := hrw.below b4
      replace B := B.trans (b4.mono B.size)
      clear b4 HC
      go_wp2_with fail
      refine (implCC_any a cp ws w4 hfit hrw).mono ?_
      rintro e w5 ⟨⟨nn, rfl, hcnt⟩, b5⟩
      have hz : nn = 0 := by
        have := (cnt_ok hcnt HB.out).2
        rcases Nat.eq_zero_or_pos nn with q | q
        · exact q
        · cases this q
      subst hz
      replace B := B.trans (b5.mono B.size)
      clear b5 hcnt
      go_wp2_with fail
      go_ret
      exact ⟨rfl, B⟩

end Go.Proofs.YtpfhegengmlkmaaGreat
