/- Texts of this claim, one behind the other. -/
import Derived.Test.YtpfhegengmlkmacGreatDoorIter
import Derived.WalkMore
import Derived.Deep.LoopGhost
import Derived.Test.YtpfhegengmlkmacGreatDoorJoinM
import Derived.Test.YtpfhegengmlkmacGreatDoorWe
import Derived.Test.YtpfhegengmlkmacGreatDoorGath
import Derived.Test.YtpfhegengmlkmacGreatDoorGet
import Derived.ArgAppend
import Derived.Laws.OwnMore
import Derived.Test.YtpfhegengmlkmacGreatDoorClone
import Derived.Test.YtpfhegengmlkmacGreatDoorZPlOwn5
/- Walk: sharedSpots. -/
namespace Go.Proofs.YtpfhegengmlkmacGreatDoor
open Go.RowKit Go.BigFrame
set_option maxRecDepth 100000

open Classical in
set_option maxHeartbeats 1600000 in
theorem sharedSpots_any (W0 w : World) (a : Option Addr) (c : Nat) (ws : List (List ItemL)) (hr : RowV W0 w a ws) (hW : Below W0.heap.size W0 w) (hok : OkW ws) :
    Calls Tryz.prog 173 #[.slice a ws.length c] w fun e w' => (∃ v L, e = .returned v ∧ GathG w' (w.heap.size + 1) v L ∧ ShW ws (L.map (·.1))) ∧ Below w.heap.size w w' := by
  have h6 := hok.2.1
  have hmm := @run_makeMap Tryz.prog
  go_enter Tryz.func173, Tryz.ntmps173
  go_wp2_with fail
  have HOK : Hid (OkW ws) := hok
  have hz0 := hW.size
  clear hok hmm
  go_loopw [13] (fun i wr => ∃ (k n : Nat) (D : DataW Value) (V : ByteArray → Value) (S : ByteArray → List Spot), k ≤ ws.length ∧ i = .int .i64 k ∧ n ≤ k * 12 ∧ GrpS wr (w.heap.size + 1) w.heap.size n D V S ∧ Hid (SpotsTo ws k 0 S) ∧ Hid (∀ s, (S s).length ≤ n) ∧ Below w.heap.size w wr) (fun i _ => ws.length - (intOf i).toNat)
  case atStart => exact ⟨0, 0, _, _, _, Nat.zero_le _, rfl, by omega, grpS_made w, spotsTo_start ws, fun s => Nat.le_refl _, (Below.refl _ _).alloc (Nat.le_refl _) _⟩
  case round =>
    obtain ⟨k, n, D, V, S, hk, rfl, hn, hg, HS, HL, hbl⟩ := hrel
    by_cases hlt : k < ws.length
    · obtain ⟨g, o, rfl, hwo⟩ := hr.below hbl k hlt
      have k0 : (0 : Int) ≤ (k : Int) := by omega
      have k1 : (k : Int) < (ws.length : Int) := by omega
      go_wp2_with fail
      refine (size_off W0 _ g (o + k * 10) ws[k] hwo).mono ?_
      rintro e w2 ⟨rfl, rfl⟩
      by_cases h0 : ws[k].length = 0
      · have HST : Hid (SpotsTo ws (k + 1) 0 S) := HS.out.empty hlt h0
        have h0' : ((ws[k].length : Int) == 0) = true := by rw [beq_iff_eq]; omega
        go_wp2_with fail
        exact ⟨⟨k + 1, n, D, V, S, by omega, by go_num, by omega, hg, HST, HL, hbl⟩, by simp [intOf]; omega⟩
      · have h0' : ((ws[k].length : Int) == 0) = false := by rw [beq_eq_false_iff_ne]; omega
        go_wp2_with fail
        refine (last_off W0 _ g (o + k * 10) ws[k] hwo (by omega)).mono ?_
        rintro e w3 ⟨⟨v, rfl, hv⟩, b3⟩
        obtain ⟨sa, sc, rfl, hcap, hrow⟩ := hv
        have B3 : Below w.heap.size w w3 := hbl.trans (b3.mono hbl.size)
        replace hg := hg.keep b3
        have hst := (HOK.out.2.2 k hlt).2.1 (ws[k].length - 1) (by omega)
        have HST : Hid (StampP (ws[k][ws[k].length - 1]).2) := hst.1
        have h12 := hst.1.1
        clear hst
        have hfd := field_stamp (ws[k][ws[k].length - 1]).1 sa (ws[k][ws[k].length - 1]).2.length sc
        go_wp2_with fail
        go_loopw [29] (fun i2 wr2 => ∃ (j n : Nat) (D : DataW Value) (V : ByteArray → Value) (S : ByteArray → List Spot), j ≤ (ws[k][ws[k].length - 1]).2.length ∧ i2 = .int .i64 j ∧ n ≤ k * 12 + j ∧ GrpS wr2 (w.heap.size + 1) w.heap.size n D V S ∧ Hid (SpotsTo ws k j S) ∧ Hid (∀ s, (S s).length ≤ n) ∧ Below w.heap.size w wr2) (fun i2 _ => (ws[k][ws[k].length - 1]).2.length - (intOf i2).toNat)
        case atStart => exact ⟨0, n, D, V, S, Nat.zero_le _, rfl, by omega, hg, HS, HL, B3⟩
        case round =>
          clear hg HS HL hn
          obtain ⟨j, n, D, V, S, hj, rfl, hn, hg, HS, HL, B4⟩ := hrel
          by_cases hjlt : j < (ws[k][ws[k].length - 1]).2.length
          · obtain ⟨bm, om, rfl, hbm, m0, m1⟩ := hrow j hjlt
            have j0 : (0 : Int) ≤ (j : Int) := by omega
            have j1 : (j : Int) < ((ws[k][ws[k].length - 1]).2.length : Int) := by omega
            have hbm' : bm < w.heap.size := by omega
            replace m0 := cell_on B4 hbm' (cell_on hW hbm m0)
            replace m1 := cell_on B4 hbm' (cell_on hW hbm m1)
            have hname := (HST.out.2.1 j hjlt).1
            have hss : ((ws[k][ws[k].length - 1]).2[j]).1.size ≤ maxLen := by have := hname.2.1; unfold maxLen; omega
            clear hname
            obtain ⟨s, hsn⟩ : ∃ s, ((ws[k][ws[k].length - 1]).2[j]).1 = s := ⟨_, rfl⟩
            obtain ⟨x, hxn⟩ : ∃ x, ((ws[k][ws[k].length - 1]).2[j]).2 = x := ⟨_, rfl⟩
            rw [hsn] at m0 hss
            rw [hxn] at m1
            have HSN : Hid (((ws[k][ws[k].length - 1]).2[j]).1 = s) := hsn
            clear hsn hxn
            go_wp2_with fail
            have hb0 : Below wr.heap.size wr (wr.alloc (.cells #[.string s, .int .i64 x] 144)) := (Below.refl _ _).alloc (Nat.le_refl _) _
            have hlt0 := box_lt wr (.cells #[.string s, .int .i64 x] 144)
            have d0 := box0 wr (.string s) (.int .i64 x) 144
            generalize wr.alloc (.cells #[.string s, .int .i64 x] 144) = W at *
            have hgd : GrpS W.drew (w.heap.size + 1) w.heap.size n D V S := (hg.keep hb0).keep (Below.refl _ _).drew
            have hl1 := lookup_spot hgd s hss
            have hb1 : Below W.heap.size W ((W.alloc (.cells #[.int .i64 (k : Int), .int .i64 (j : Int)] 245)).drew) := ((Below.refl _ _).alloc (Nat.le_refl _) _).drew
            have hga := (hg.keep hb0).keep hb1
            have hl2 := lookup_spot hga s hss
            have SW : (W.drew).cell? ⟨wr.heap.size, 0, none⟩ = some (.string s) := d0
            have S2 : ((W.alloc (.cells #[.int .i64 (k : Int), .int .i64 (j : Int)] 245)).drew).cell? ⟨wr.heap.size, 0, none⟩ = some (.string s) := cell_on hb1 hlt0 d0
            have z4 := B4.size
            have zm := hg.own.lt
            have zx := hb0.size
            have BX : Below w.heap.size w ((W.alloc (.cells #[.int .i64 (k : Int), .int .i64 (j : Int)] 245)).drew) := (B4.trans (hb0.mono z4)).trans (hb1.mono (Nat.le_trans z4 zx))
            have hXs := BX.size
            have hfar : some wr.heap.size ≠ (V s).ownBlock := fun e => by have := (World.ownsRow.lt (hg.row s) _ e.symm).2; omega
            have hown : some w.heap.size ≠ (V s).ownBlock := fun e => by have := own_from (hg.row s) _ e.symm; omega
            have HST2 : Hid (SpotsTo ws k (j + 1) (fun t => if t = s then S s ++ [(k, j)] else S t)) := HS.out.step hlt (by omega) hjlt HSN.out
            have HL2 : Hid (∀ t, (if t = s then S s ++ [(k, j)] else S t).length ≤ n + 1) := fun t => by
              by_cases e : t = s
              · rw [if_pos e, List.length_append]
                have := HL.out s
                simp only [List.length_singleton]
                omega
              · rw [if_neg e]
                have := HL.out t
                omega
            refine wp_region_held_drew (S := fun u => u.cell? ⟨wr.heap.size, 0, none⟩ = some (.string s)) (by kernel_rfl) SW (fun _ => ?_)
            refine wpAnyH_take (i := 0) (v := .map (some w.heap.size)) rfl (by kernel_rfl) (by kernel_rfl) (by kernel_rfl) (fun _ _ _ h => h) (Or.inl ⟨by rfl, ?_⟩) SW ?_
            · rintro u q1
              go_simp
            simp only [Act.put, List.setIfInBounds_toArray]
            refine wpAnyH_take (i := 1) (v := .pointer (some ⟨wr.heap.size, 0, none⟩)) rfl (by kernel_rfl) (by kernel_rfl) (by kernel_rfl) (fun _ _ _ h => h) (Or.inl ⟨by rfl, ?_⟩) SW ?_
            · rintro u q1
              go_simp
            simp only [Act.put]
            refine wpAnyH_take (i := 2) (v := .string s) rfl (by kernel_rfl) (by kernel_rfl) (by kernel_rfl) (fun _ _ _ h => h) (Or.inl ⟨by rfl, ?_⟩) SW ?_
            · rintro u q1
              go_simp
            simp only [Act.put]
            refine wpAnyH_take (i := 3) (v := .map (some w.heap.size)) rfl (by kernel_rfl) (by kernel_rfl) (by kernel_rfl) (fun _ _ _ h => h) (Or.inl ⟨by rfl, ?_⟩) SW ?_
            · rintro u q1
              go_simp
            simp only [Act.put]
            refine wpAnyH_take (i := 4) (v := .pointer (some ⟨wr.heap.size, 0, none⟩)) rfl (by kernel_rfl) (by kernel_rfl) (by kernel_rfl) (fun _ _ _ h => h) (Or.inl ⟨by rfl, ?_⟩) SW ?_
            · rintro u q1
              go_simp
            simp only [Act.put]
            refine wpAnyH_take (i := 5) (v := .string s) rfl (by kernel_rfl) (by kernel_rfl) (by kernel_rfl) (fun _ _ _ h => h) (Or.inl ⟨by rfl, ?_⟩) SW ?_
            · rintro u q1
              go_simp
            simp only [Act.put]
            refine wpAnyH_take (i := 7) (v := .int .i64 k) rfl (by kernel_rfl) (by kernel_rfl) (by kernel_rfl) (fun _ _ _ h => h) (Or.inl ⟨by rfl, ?_⟩) SW ?_
            · rintro u q1
              go_simp
            simp only [Act.put]
            refine wpAnyH_take (i := 8) (v := .int .i64 j) rfl (by kernel_rfl) (by kernel_rfl) (by kernel_rfl) (fun _ _ _ h => h) (Or.inl ⟨by rfl, ?_⟩) SW ?_
            · rintro u q1
              go_simp
            simp only [Act.put]
            refine wpAnyH_take (i := 9) (v := .agg #[.int .i64 k, .int .i64 j]) rfl (by kernel_rfl) (by kernel_rfl) (by kernel_rfl) (fun _ _ _ h => h) (Or.inl ⟨by rfl, ?_⟩) SW ?_
            · rintro u q1
              go_simp
            simp only [Act.put]
            refine wpAnyH_ready (rs := [6, 10]) (by kernel_rfl) (by simp) ?_
            refine AllReadyH.cons rfl (fun K hK => ?_) (AllReadyH.cons rfl (fun K hK => ?_) AllReadyH.nil)
            · rw [if_pos (by rfl)]
              go_simp
              refine hK.out _ _ SW (fun _ => ?_)
              clear hK K
              refine wpAnyH_ready (rs := [10]) (by kernel_rfl) (by simp) ?_
              refine AllReadyH.cons rfl (fun K hK => ?_) AllReadyH.nil
              rw [if_pos (by rfl)]
              go_simp
              refine hK.out _ _ S2 (fun _ => ?_)
              clear hK K
              refine wpAnyH_ready (rs := [11]) (by kernel_rfl) (by simp) ?_
              refine AllReadyH.cons rfl (fun K hK => ?_) AllReadyH.nil
              rw [if_pos (by rfl)]
              refine wp_append_spot _ _ rfl (w.heap.size + 1) (V s) (S s) rfl (hga.row s) (by have := hb1.size; omega) W.heap.size (k, j) rfl (by simp [go_sem]) (by simp [go_sem]) (by have := HL.out s; omega) ?_
              intro v' w4 ho hgb hloc
              have S4 : w4.cell? ⟨wr.heap.size, 0, none⟩ = some (.string s) := grown_cell hgb hfar S2
              refine hK.out _ _ S4 (fun _ => ?_)
              clear hK K
              refine wpAnyH_ready (rs := [12]) (by kernel_rfl) (by simp) ?_
              refine AllReadyH.cons rfl (fun K hK => ?_) AllReadyH.nil
              rw [if_pos (by rfl)]
              refine wp_update_spot _ _ _ rfl w.heap.size n D rfl (hga.own.kept hgb hown) (by unfold maxLen; omega) s hss v' rfl rfl ?_
              intro w5 h2 hg2
              have S5 : w5.cell? ⟨wr.heap.size, 0, none⟩ = some (.string s) := grown_cell hg2 (fun q => by have := Option.some.inj q; omega) S4
              refine hK.out _ _ S5 (fun _ => ?_)
              clear hK K
              refine wpAnyH_done (by kernel_rfl) ?_ _
              go_wp2_with fail
              exact ⟨⟨j + 1, n + 1, _, _, _, by omega, by go_num, by omega, hga.put s (k, j) hgb ho (hloc.imp_right fun e => ⟨_, e, Nat.le_refl _⟩) h2 hg2, HST2, HL2, (BX.grown hgb hXs (fun q hq => by have := own_from (hga.row s) q hq; omega)).grown hg2 (Nat.le_trans hXs hgb.size) (fun q hq => by cases hq; exact Nat.le_refl _)⟩, by simp [intOf]; omega⟩
            · rw [if_pos (by rfl)]
              go_simp
              refine hK.out _ _ S2 (fun _ => ?_)
              clear hK K
              refine wpAnyH_ready (rs := [6]) (by kernel_rfl) (by simp) ?_
              refine AllReadyH.cons rfl (fun K hK => ?_) AllReadyH.nil
              rw [if_pos (by rfl)]
              go_simp
              refine hK.out _ _ S2 (fun _ => ?_)
              clear hK K
              refine wpAnyH_ready (rs := [11]) (by kernel_rfl) (by simp) ?_
              refine AllReadyH.cons rfl (fun K hK => ?_) AllReadyH.nil
              rw [if_pos (by rfl)]
              refine wp_append_spot _ _ rfl (w.heap.size + 1) (V s) (S s) rfl (hga.row s) (by have := hb1.size; omega) W.heap.size (k, j) rfl (by simp [go_sem]) (by simp [go_sem]) (by have := HL.out s; omega) ?_
              intro v' w4 ho hgb hloc
              have S4 : w4.cell? ⟨wr.heap.size, 0, none⟩ = some (.string s) := grown_cell hgb hfar S2
              refine hK.out _ _ S4 (fun _ => ?_)
              clear hK K
              refine wpAnyH_ready (rs := [12]) (by kernel_rfl) (by simp) ?_
              refine AllReadyH.cons rfl (fun K hK => ?_) AllReadyH.nil
              rw [if_pos (by rfl)]
              refine wp_update_spot _ _ _ rfl w.heap.size n D rfl (hga.own.kept hgb hown) (by unfold maxLen; omega) s hss v' rfl rfl ?_
              intro w5 h2 hg2
              have S5 : w5.cell? ⟨wr.heap.size, 0, none⟩ = some (.string s) := grown_cell hg2 (fun q => by have := Option.some.inj q; omega) S4
              refine hK.out _ _ S5 (fun _ => ?_)
              clear hK K
              refine wpAnyH_done (by kernel_rfl) ?_ _
              go_wp2_with fail
              exact ⟨⟨j + 1, n + 1, _, _, _, by omega, by go_num, by omega, hga.put s (k, j) hgb ho (hloc.imp_right fun e => ⟨_, e, Nat.le_refl _⟩) h2 hg2, HST2, HL2, (BX.grown hgb hXs (fun q hq => by have := own_from (hga.row s) q hq; omega)).grown hg2 (Nat.le_trans hXs hgb.size) (fun q hq => by cases hq; exact Nat.le_refl _)⟩, by simp [intOf]; omega⟩
          · have HX : Hid (SpotsTo ws (k + 1) 0 S) := SpotsTo.whole hlt (by omega) (by
              have e : j = (ws[k][ws[k].length - 1]).2.length := by omega
              rw [← e]; exact HS.out)
            go_wp2_with fail
            exact ⟨⟨k + 1, n, D, V, S, by omega, by go_num, by omega, hg, HX, HL, B4⟩, by simp [intOf]; omega⟩
    · clear hr
      have HOW : Hid (∃ n0, n0 ≤ 72 ∧ GrpS wr (w.heap.size + 1) w.heap.size n0 D V S ∧ ∀ s, (S s).length ≤ n0) := ⟨n, by omega, hg, HL.out⟩
      go_wp2_with fail
      refine (callsIn_wide.1 (Tryz.maps_Keys_199 (some w.heap.size) _)).mono ?_
      rintro e w1 ⟨rfl, rfl⟩
      go_wp2_with fail
      have hsz := hg.own.size_le
      refine (callsIn_wide.1 (Tryz.slices_Sorted_keys_198_199 w.heap.size n D heldE _ hg.own (by unfold maxLen; omega) (by omega))).mono ?_
      rintro e w2 ⟨v, ss, rfl, hperm, hsown, _, b2⟩
      obtain ⟨names, hnm⟩ : ∃ l, l = textsL (ss.mergeSort (fun x y => decide (x ≤ y))) := ⟨_, rfl⟩
      have hnl : names.length = ss.length := by rw [hnm]; simp [textsL]
      have hgs : GathS w2 (wr.alloc (.cells #[.map (some w.heap.size)] 261)).heap.size v names := by
        unfold GathS
        rw [hnl, hnm, ← textsL_cells]
        exact hsown
      obtain ⟨sa, sc, rfl, hnrow⟩ := hgs.shape
      have HN : Hid (∀ s, S s ≠ [] → s ∈ names) := fun s hs => by rw [hnm]; exact hg.listed hperm hs
      have hn72 : names.length ≤ 72 := by
        rw [hnl, hperm.length_eq]
        have e : (strKeys D).length = Maps.size D := by
          obtain ⟨es, rfl, _⟩ := World.ownsMap.keysOf hg.own
          simp [strKeys, Maps.size]
        omega
      have HSZ : Hid (∀ q, (h : q < names.length) → names[q].size ≤ maxLen) := fun q hq => by
        subst hnm
        have hm := (List.mergeSort_perm ss (fun x y => decide (x ≤ y))).mem_iff.1 (List.getElem_mem (by simpa [textsL] using hq : q < (ss.mergeSort (fun x y => decide (x ≤ y))).length))
        have := strKeys_le hg.own Tryz.underlying9 _ (hperm.mem_iff.1 hm)
        simpa [textsL, ByteArray.size] using this
      have hb2 : Below wr.heap.size wr w2 := ((Below.refl _ _).alloc (Nat.le_refl _) _).trans (b2.mono (by simp))
      have B2 : Below w.heap.size w w2 := hbl.trans (hb2.mono hbl.size)
      have hg2 := hg.keep hb2
      have hgn : GathS w2 (w.heap.size + 1) (.slice sa names.length sc) names := hgs.lower (by have := hg.own.lt; simp; omega)
      have hmlt := hg2.own.lt
      clear hg hsown hgs hperm hnm hnl b2 hsz HOW hnrow
      obtain ⟨i0, hi, hy0, hy1, hy2⟩ := info_parts Tryz.infoQ
      go_wp2_with fail
      go_loopw [7, 52] (fun vs i wr3 => ∃ (q : Nat) (L : List (List Spot × Value)), q ≤ names.length ∧ i = .int .i64 q ∧ L.length ≤ q ∧ GathG wr3 (w.heap.size + 1) vs L ∧ Hid (SharedTo S names q L) ∧ GrpS wr3 (w.heap.size + 1) w.heap.size n D V S ∧ GathS wr3 (w.heap.size + 1) (.slice sa names.length sc) names ∧ Below w.heap.size w wr3) (fun _ i _ => names.length - (intOf i).toNat)
      case atStart => exact ⟨0, [], Nat.zero_le _, rfl, Nat.le_refl _, gathG_none _ _, ⟨fun p hp => by simp at hp, fun q _ h => by omega⟩, hg2, hgn, B2⟩
      case round =>
        clear hg2 hgn B2 hb2
        obtain ⟨q, L, hq, rfl, hLq, hL, HSH, hg, hgn, B3⟩ := hrel
        have hmlt := hg.own.lt
        by_cases hqlt : q < names.length
        · have hnrow : RowS wr sa names := by
            obtain ⟨a9, c9, e9, h9⟩ := hgn.shape
            cases e9
            exact h9
          obtain ⟨bn, on, rfl, hbn, n0⟩ := hnrow q hqlt
          have q0 : (0 : Int) ≤ (q : Int) := by omega
          have q1 : (q : Int) < (names.length : Int) := by omega
          have hlk := lookup_spot hg names[q] (HSZ.out q hqlt)
          have hgp := hg.row names[q]
          obtain ⟨va, vc, ev, hvc, _⟩ := GathP.row hgp
          rw [ev] at hlk hgp
          by_cases h1 : 1 < (S names[q]).length
          · have HX : Hid (SharedTo S names (q + 1) (L ++ [(S names[q], .slice va (S names[q]).length vc)])) := HSH.out.take hqlt h1 _
            have h1' : decide (1 < ((S names[q]).length : Int)) = true := decide_eq_true (by omega)
            go_wp2_with (first | (at_builtin; refine wpList_append_own_at _ rfl _ _ 211 rfl (w.heap.size + 1) 242 i0 (.slice none 0 0) 1 24 Tryz.underlying211 hi hy0 hy1 hy2 rfl (by decide) _ L.length (L.map (·.2)) rfl (own_keep hL.1 ((Below.refl _ _).alloc (Nat.le_refl _) _)) ⟨wr.heap.size, 0, none⟩ 1 1 [.slice va (S names[q]).length vc] rfl rfl (one_new _ _ _) (by simp [Value.oneCell']) (by unfold maxLen; omega) (by omega) (by simp; omega) ?_; intro v' w5 hown' hgrow _ hloc))
            have hbx : Below wr.heap.size wr (wr.alloc (.cells #[.slice va (S names[q]).length vc] 242)) := (Below.refl _ _).alloc (Nat.le_refl _) _
            have hkL := hL.keep hbx
            exact ⟨⟨q + 1, L ++ [(S names[q], .slice va (S names[q]).length vc)], by omega, by go_num, by simp; omega, hkL.snoc (hgp.keep hbx) spot_unlike hown' hgrow, HX, (hg.keep hbx).kept hkL.1 hgrow spot_unlike, (hgn.keep hbx).beside hkL.1 hgrow, ((B3.trans (hbx.mono B3.size)).grown hgrow (by simp; omega) (fun k hk => by have := own_from hkL.1 k hk; omega))⟩, by simp [intOf]; omega⟩
          · have HX : Hid (SharedTo S names (q + 1) L) := HSH.out.skip hqlt h1
            have h1' : decide (1 < ((S names[q]).length : Int)) = false := decide_eq_false (by omega)
            go_wp2_with fail
            exact ⟨⟨q + 1, L, by omega, by go_num, by omega, hL, HX, hg, hgn, B3⟩, by simp [intOf]; omega⟩
        · have HF : Hid (ShW ws (L.map (·.1))) := SharedTo.shared (by have e : q = names.length := by omega
                                                                      rw [← e]; exact HSH.out) (by have e : ws.length = k := by omega
                                                                                                   rw [e]; exact HS.out) HN.out (fun s => by have := HL.out s; omega) (by omega)
          obtain ⟨fa, fc, rfl, _, _⟩ := hL.row
          go_wp2_with fail
          go_ret
          exact ⟨⟨_, L, rfl, hL, HF.out⟩, B3⟩

end Go.Proofs.YtpfhegengmlkmacGreatDoor
/- readWindow once more: the items lie in an older world. -/
namespace Go.Proofs.YtpfhegengmlkmacGreatDoor
open Go.RowKit Go.BigFrame
set_option maxRecDepth 100000

set_option maxHeartbeats 3200000 in
theorem readWindow_from (W0 : World) (a : Option Addr) (cap : Nat) (l : List ItemL) (w : World) (hf : FitI l) (hr : RowI W0 a l) (h0 : Below W0.heap.size W0 w) :
    Calls Tryz.prog 127 #[.slice a l.length cap] w fun e w' => ReadE W0 l e ∧ Below w.heap.size w w' := by
  have hl := hf.1
  unfold maxLen at hl
  by_cases h4 : 4 < l.length
  · have HN : Hid (¬ WinP l) := fun h => by have := h.1; omega
    go_enter Tryz.func127, Tryz.ntmps127
    go_wp2_with fail
    exact bodyPost_ret (v := .tuple #[.agg zero10, .bool false]) (by simp [results, Tryz.results127, go_sem]) rfl ⟨.inr ⟨_, rfl, HN.out, winV_zero _⟩, ((Below.refl _ _).alloc (Nat.le_refl _) _).alloc (by simp) _⟩
  go_enter Tryz.func127, Tryz.ntmps127
  go_wp2_with fail
  have hA1 : Below w.heap.size w (w.alloc (.cells zero10 190)) := (Below.refl _ _).alloc (Nat.le_refl _) _
  have hA2 : Below w.heap.size w ((w.alloc (.cells zero10 190)).alloc (.cells zero10 190)) := hA1.alloc hA1.size _
  have hZ : ZeroB ((w.alloc (.cells zero10 190)).alloc (.cells zero10 190)) w.heap.size := (zeroB_new w).below ((Below.refl _ _).alloc (Nat.le_refl _) _)
  have hWn : WinB W0 ((w.alloc (.cells zero10 190)).alloc (.cells zero10 190)) (w.heap.size + 1) 0 [] := by
    have h := winB_new W0 (w.alloc (.cells zero10 190)) (Nat.le_trans h0.size hA1.size)
    rw [World.size_alloc] at h
    exact h
  go_loopw [13] (fun i wr => ∃ k : Nat, k ≤ l.length ∧ i = .int .i64 k ∧ WinB W0 wr (w.heap.size + 1) 0 (l.take k) ∧ Hid (WinTo l k) ∧ ZeroB wr w.heap.size ∧ Below w.heap.size w wr) (fun i _ => l.length - (intOf i).toNat)
  case atStart => exact ⟨0, Nat.zero_le _, rfl, hWn, winTo_zero l, hZ, hA2⟩
  case round =>
    obtain ⟨k, hk, rfl, hW, HTO, hz, hb⟩ := hrel
    clear hA1 hA2 hZ hWn
    by_cases hlt : k < l.length
    · obtain ⟨b1, o1, rfl, g1, e0, v1, e1, ⟨s1, t1, rfl, hc1, r1⟩⟩ := hr k hlt
      have k0 : (0 : Int) ≤ (k : Int) := by omega
      have k1 : (k : Int) < (l.length : Int) := by omega
      have x0 := cell_on (h0.trans (hb.mono h0.size)) g1 e0
      have x1 := cell_on (h0.trans (hb.mono h0.size)) g1 e1
      have fk := hf.2 k hlt
      clear e0 e1
      go_wp2_with fail
      have hb0 : Below wr.heap.size wr (wr.alloc (.cells #[.int .i64 l[k].1, .slice s1 l[k].2.length t1] 44)) := (Below.refl _ _).alloc (Nat.le_refl _) _
      have d0 := box0 wr (.int .i64 l[k].1) (.slice s1 l[k].2.length t1) 44
      have d1 := box1 wr (.int .i64 l[k].1) (.slice s1 l[k].2.length t1) 44
      have hlt0 := box_lt wr (.cells #[.int .i64 l[k].1, .slice s1 l[k].2.length t1] 44)
      replace hW := hW.below hb0
      replace hz := hz.below hb0
      have B1 : Below w.heap.size w (wr.alloc (.cells #[.int .i64 l[k].1, .slice s1 l[k].2.length t1] 44)) := hb.trans (hb0.mono hb.size)
      generalize hq : wr.heap.size = q at *
      generalize wr.alloc (.cells #[.int .i64 l[k].1, .slice s1 l[k].2.length t1] 44) = W1 at *
      clear hb0 x0 x1 hq hb
      refine (itemOk_any l[k].1 s1 t1 l[k].2 W1 (r1.below (h0.trans (B1.mono h0.size))) fk).mono ?_
      rintro e w2 ⟨⟨r, rfl, hr2⟩, b2⟩
      replace hW := hW.below b2
      replace hz := hz.below b2
      replace d0 := cell_on b2 hlt0 d0
      replace d1 := cell_on b2 hlt0 d1
      have B2 : Below w.heap.size w w2 := B1.trans (b2.mono B1.size)
      have hlt2 : q < w2.heap.size := Nat.lt_of_lt_of_le hlt0 b2.size
      have HR2 : Hid (r = true ↔ StampP l[k].2 ∧ l[k].2 ≠ []) := hr2
      clear hr2 b2 B1 hlt0
      cases r
      · have HN : Hid (¬ WinP l) := fun h => by simpa using HR2.out.2 (h.2.1 k hlt)
        obtain ⟨z0, z1, z2, z3, z4, z5, z6, z7, z8, z9⟩ := hz.cells
        obtain ⟨y0, y1, y2, y3, y4, y5, y6, y7, y8, y9⟩ := hz.free
        have HY : Hid _ := put10_cells hz (.int .i64 0) (.slice none 0 0) (.int .i64 0) (.slice none 0 0) (.int .i64 0) (.slice none 0 0) (.int .i64 0) (.slice none 0 0) (.int .i64 0) (.int .i64 0)
        clear HR2 hz hW
        go_wp2_with fail
        obtain ⟨Y0, Y1, Y2, Y3, Y4, Y5, Y6, Y7, Y8, Y9⟩ := HY.out
        unfold put10 at Y0 Y1 Y2 Y3 Y4 Y5 Y6 Y7 Y8 Y9
        exact bodyPost_ret (v := .tuple #[.agg zero10, .bool false]) (by simp [results, Tryz.results127, go_sem, Y0, Y1, Y2, Y3, Y4, Y5, Y6, Y7, Y8, Y9]) rfl ⟨.inr ⟨_, rfl, HN.out, winV_zero _⟩, put10_below B2 (Nat.le_refl _) _ _ _ _ _ _ _ _ _ _⟩
      · go_wp2_with fail
        refine (takes_any W0 w2 _ 0 (l.take k) l[k].1 _ l[k].2 hW (h0.trans (B2.mono h0.size)) (stamps_take HTO.out) ⟨s1, t1, rfl, hc1, r1⟩ (HR2.out.1 (by trivial)).1).mono ?_
        rintro e w3 ⟨⟨r, rfl, hr3⟩, b3⟩
        replace hW := hW.below b3
        replace hz := hz.below b3
        replace d0 := cell_on b3 hlt2 d0
        replace d1 := cell_on b3 hlt2 d1
        have B3 : Below w.heap.size w w3 := B2.trans (b3.mono B2.size)
        have HR3 : Hid (r = true ↔ ∀ h : 0 < (l.take k).length, AboveP ((l.take k)[(l.take k).length - 1]'(by omega)).2 l[k].2) := hr3
        clear hr3 b3 B2 hlt2
        cases r
        · have HN : Hid (¬ WinP l) := fun h => by
            have h3 := HR3.out.2 (take_above h hlt)
            simp at h3
          obtain ⟨z0, z1, z2, z3, z4, z5, z6, z7, z8, z9⟩ := hz.cells
          obtain ⟨y0, y1, y2, y3, y4, y5, y6, y7, y8, y9⟩ := hz.free
          have HY : Hid _ := put10_cells hz (.int .i64 0) (.slice none 0 0) (.int .i64 0) (.slice none 0 0) (.int .i64 0) (.slice none 0 0) (.int .i64 0) (.slice none 0 0) (.int .i64 0) (.int .i64 0)
          clear HR2 HR3 hz hW
          go_wp2_with fail
          obtain ⟨Y0, Y1, Y2, Y3, Y4, Y5, Y6, Y7, Y8, Y9⟩ := HY.out
          unfold put10 at Y0 Y1 Y2 Y3 Y4 Y5 Y6 Y7 Y8 Y9
          exact bodyPost_ret (v := .tuple #[.agg zero10, .bool false]) (by simp [results, Tryz.results127, go_sem, Y0, Y1, Y2, Y3, Y4, Y5, Y6, Y7, Y8, Y9]) rfl ⟨.inr ⟨_, rfl, HN.out, winV_zero _⟩, put10_below B3 (Nat.le_refl _) _ _ _ _ _ _ _ _ _ _⟩
        · have HST : Hid (WinTo l (k + 1)) := winTo_step HTO.out hlt (HR2.out.1 (by trivial)) (fun h => above_take hlt h (HR3.out.1 (by trivial)))
          have HT : Hid (l.take (k + 1) = l.take k ++ [(l[k].1, l[k].2)]) := List.take_succ_eq_append_getElem hlt
          clear HR2 HR3 HTO
          go_wp2_with fail
          refine (push_room W0 w3 _ 0 (l.take k) l[k].1 _ l[k].2 hW ⟨s1, t1, rfl, hc1, r1⟩ (by rw [List.length_take]; omega)).mono ?_
          rintro e w4 ⟨rfl, hW4, b4⟩
          have hz4 := hz.but b4 (by omega)
          have B4 : Below w.heap.size w w4 := B3.trans (b4.below (by omega) B3.size)
          clear hW hz d0 d1 b4
          go_wp2_with fail
          exact ⟨⟨k + 1, by omega, by go_num, by rw [HT.out]; exact hW4, HST, hz4, B4⟩, by simp [intOf]; omega⟩
    · have HF : Hid (WinP l) := winP_of HTO.out hlt (by omega)
      rw [List.take_of_length_le (by omega)] at hW
      obtain ⟨z0, z1, z2, z3, z4, z5, z6, z7, z8, z9⟩ := hz.cells
      obtain ⟨y0, y1, y2, y3, y4, y5, y6, y7, y8, y9⟩ := hz.free
      obtain ⟨_, _, _, f, ⟨hrow, hsh⟩, e8, e9, hf'⟩ := hW
      obtain ⟨x0, a0, n0, c0, p0, p1⟩ := hsh 0 (by omega)
      obtain ⟨x1, a1, n1, c1, p2, p3⟩ := hsh 1 (by omega)
      obtain ⟨x2, a2, n2, c2, p4, p5⟩ := hsh 2 (by omega)
      obtain ⟨x3, a3, n3, c3, p6, p7⟩ := hsh 3 (by omega)
      have HV : Hid (WinV W0 (.agg #[.int .i64 x0, .slice a0 n0 c0, .int .i64 x1, .slice a1 n1 c1, .int .i64 x2, .slice a2 n2 c2, .int .i64 x3, .slice a3 n3 c3, .int .i64 0, .int .i64 l.length]) l) := winV_of (by omega) p0 p1 p2 p3 p4 p5 p6 p7 hf'
      have r0 : wr.cell? ⟨w.heap.size + 1, 0, none⟩ = some (.int .i64 x0) := by rw [hrow.cell (by omega), ← p0]
      have r1 : wr.cell? ⟨w.heap.size + 1, 1, none⟩ = some (.slice a0 n0 c0) := by rw [hrow.cell (by omega), ← p1]
      have r2 : wr.cell? ⟨w.heap.size + 1, 2, none⟩ = some (.int .i64 x1) := by rw [hrow.cell (by omega), ← p2]
      have r3 : wr.cell? ⟨w.heap.size + 1, 3, none⟩ = some (.slice a1 n1 c1) := by rw [hrow.cell (by omega), ← p3]
      have r4 : wr.cell? ⟨w.heap.size + 1, 4, none⟩ = some (.int .i64 x2) := by rw [hrow.cell (by omega), ← p4]
      have r5 : wr.cell? ⟨w.heap.size + 1, 5, none⟩ = some (.slice a2 n2 c2) := by rw [hrow.cell (by omega), ← p5]
      have r6 : wr.cell? ⟨w.heap.size + 1, 6, none⟩ = some (.int .i64 x3) := by rw [hrow.cell (by omega), ← p6]
      have r7 : wr.cell? ⟨w.heap.size + 1, 7, none⟩ = some (.slice a3 n3 c3) := by rw [hrow.cell (by omega), ← p7]
      have r8 : wr.cell? ⟨w.heap.size + 1, 8, none⟩ = some (.int .i64 0) := by rw [hrow.cell (by omega), e8]; rfl
      have r9 : wr.cell? ⟨w.heap.size + 1, 9, none⟩ = some (.int .i64 l.length) := by rw [hrow.cell (by omega), e9]
      have HY : Hid _ := put10_cells hz (.int .i64 x0) (.slice a0 n0 c0) (.int .i64 x1) (.slice a1 n1 c1) (.int .i64 x2) (.slice a2 n2 c2) (.int .i64 x3) (.slice a3 n3 c3) (.int .i64 0) (.int .i64 l.length)
      clear HTO hz hrow hsh e8 e9 hf' p0 p1 p2 p3 p4 p5 p6 p7 f
      go_wp2_with fail
      obtain ⟨Y0, Y1, Y2, Y3, Y4, Y5, Y6, Y7, Y8, Y9⟩ := HY.out
      unfold put10 at Y0 Y1 Y2 Y3 Y4 Y5 Y6 Y7 Y8 Y9
      exact bodyPost_ret (v := .tuple #[.agg #[.int .i64 x0, .slice a0 n0 c0, .int .i64 x1, .slice a1 n1 c1, .int .i64 x2, .slice a2 n2 c2, .int .i64 x3, .slice a3 n3 c3, .int .i64 0, .int .i64 l.length], .bool true]) (by simp [results, Tryz.results127, go_sem, Y0, Y1, Y2, Y3, Y4, Y5, Y6, Y7, Y8, Y9]) rfl ⟨.inl ⟨_, rfl, HF.out, HV.out⟩, put10_below hb (Nat.le_refl _) _ _ _ _ _ _ _ _ _ _⟩

end Go.Proofs.YtpfhegengmlkmacGreatDoor
/- Walk: readChoices. -/
namespace Go.Proofs.YtpfhegengmlkmacGreatDoor
open Go.RowKit Go.BigFrame
set_option maxRecDepth 100000

theorem Tryz.infoV : (Tryz.prog.info? 190).map (fun i => (i.zero, i.size, i.bytes)) = some (some (.agg zero10), 10, 144) := by kernel_rfl
theorem block_new (w : World) (cs : Array Value) (t : TypeId) : ∀ j u, cs.toList[j]? = some u → (w.alloc (.cells cs t)).cell? ((⟨w.heap.size, 0, none⟩ : Addr).add j) = some u := by
  intro j u hj
  have e : (⟨w.heap.size, 0, none⟩ : Addr).add j = ⟨w.heap.size, j, none⟩ := by unfold Addr.add; split <;> simp_all
  rw [e, World.cell?_alloc_new]
  simpa using hj

/-- What readChoices answers. -/
def ChoE (w w' : World) (ws : List (List ItemL)) (e : Ending) : Prop := (∃ a1 c1 a2 c2 sh, e = .returned (.tuple #[.agg #[.slice a1 ws.length c1, .slice a2 sh.length c2], .bool true]) ∧ OkW ws ∧ ws.length ≤ c1 ∧ sh.length ≤ c2 ∧ RowV w w' a1 ws ∧ RowG w' a2 sh ∧ ShW ws sh) ∨ (e = .returned (.tuple #[.agg #[.slice none 0 0, .slice none 0 0], .bool false]) ∧ ¬ OkW ws)
/-- Two cells of a block of the call's own. -/
def Two (w : World) (b : Nat) (x y : Value) : Prop := w.cell? ⟨b, 0, none⟩ = some x ∧ w.cell? ⟨b, 1, none⟩ = some y ∧ w.frozen? ⟨b, 0, none⟩ = false ∧ w.frozen? ⟨b, 1, none⟩ = false
theorem Two.keep {w w' : World} {b : Nat} {x y : Value} (h : Two w b x y) (hb : Below w.heap.size w w') : Two w' b x y := by
  have hlt := block_lt_of_cell h.1
  exact ⟨cell_on hb hlt h.1, cell_on hb hlt h.2.1, (hb.frozen (p := ⟨b, 0, none⟩) hlt).trans h.2.2.1, (hb.frozen (p := ⟨b, 1, none⟩) hlt).trans h.2.2.2⟩

theorem Two.grown {w w' : World} {b : Nat} {x y : Value} {r : Option Nat} (h : Two w b x y) (hg : w.grownBy w' r) (hne : some b ≠ r) : Two w' b x y := by
  have hlt := block_lt_of_cell h.1
  exact ⟨grown_cell hg hne h.1, grown_cell hg hne h.2.1, (hg.frozen_far ⟨b, 0, none⟩ hlt hne).trans h.2.2.1, (hg.frozen_far ⟨b, 1, none⟩ hlt hne).trans h.2.2.2⟩
theorem Two.set0 {w : World} {b : Nat} {x y : Value} (h : Two w b x y) (z : Value) : Two (w.setCell ⟨b, 0, none⟩ z) b z y := by
  obtain ⟨h0, h1, h2, h3⟩ := h
  exact ⟨by simp [go_sem, h0], by simp [go_sem, h1], by simp [go_sem, h2], by simp [go_sem, h3]⟩
theorem Two.far {w : World} {b q : Nat} {x y : Value} (h : Two w b x y) (hq : b ≠ q) (i : Nat) (z : Value) : Two (w.setCell ⟨q, i, none⟩ z) b x y := by
  obtain ⟨h0, h1, h2, h3⟩ := h
  exact ⟨by rw [set_far _ _ _ _ hq]; exact h0, by rw [set_far _ _ _ _ hq]; exact h1, by simp [go_sem, h2], by simp [go_sem, h3]⟩

theorem own_far {w : World} {B e size n q : Nat} {v : Value} {xs : List Value} (h : w.ownsRow B e size v n xs) (hq : q < B) (i : Nat) (z : Value) : (w.setCell ⟨q, i, none⟩ z).ownsRow B e size v n xs := by
  obtain ⟨hl, h | ⟨g, cap, cur, hv, hgB, hh, r⟩⟩ := h
  · exact ⟨hl, .inl h⟩
  · exact ⟨hl, .inr ⟨g, cap, cur, hv, hgB, (Below.heap_setCell _ _ _ _ (by simp only; omega)).trans hh, r⟩⟩

theorem GathW.far {W0 w : World} {B q : Nat} {v : Value} {L : List (List ItemL × List Value)} (h : GathW W0 w B v L) (hq : q < B) (i : Nat) (z : Value) : GathW W0 (w.setCell ⟨q, i, none⟩ z) B v L := ⟨own_far h.1 hq i z, h.2⟩
theorem GathG.far {w : World} {B q : Nat} {v : Value} {L : List (List Spot × Value)} (h : GathG w B v L) (hq : q < B) (i : Nat) (z : Value) : GathG (w.setCell ⟨q, i, none⟩ z) B v L := ⟨own_far h.1 hq i z, fun p hp => own_far (h.2 p hp) hq i z⟩

set_option maxHeartbeats 3200000 in
theorem readChoices_any (a : Option Addr) (cap : Nat) (ws : List (List ItemL)) (w : World) (hf : FitW ws) (hr : RowW w a ws) :
    Calls Tryz.prog 137 #[.slice a ws.length cap] w fun e w' => ChoE w w' ws e ∧ Below w.heap.size w w' := by
  have hl := hf.1
  unfold maxLen at hl
  obtain ⟨i0, hi, hy0, hy1, hy2⟩ := info_parts Tryz.infoV
  by_cases h1 : ws.length < 1
  · go_enter Tryz.func137, Tryz.ntmps137
    go_wp2_with fail
    exact bodyPost_ret (v := .tuple #[.agg #[.slice none 0 0, .slice none 0 0], .bool false]) (by simp [results, Tryz.results137, go_sem]) rfl ⟨.inr ⟨rfl, fun h => by have := h.1; omega⟩, ((Below.refl _ _).alloc (Nat.le_refl _) _).alloc (by simp) _⟩
  by_cases h6 : 6 < ws.length
  · go_enter Tryz.func137, Tryz.ntmps137
    go_wp2_with fail
    exact bodyPost_ret (v := .tuple #[.agg #[.slice none 0 0, .slice none 0 0], .bool false]) (by simp [results, Tryz.results137, go_sem]) rfl ⟨.inr ⟨rfl, fun h => by have := h.2.1; omega⟩, ((Below.refl _ _).alloc (Nat.le_refl _) _).alloc (by simp) _⟩
  have B0 : Below w.heap.size w ((w.alloc (.cells #[.slice none 0 0, .slice none 0 0] 213)).alloc (.cells #[.slice none 0 0, .slice none 0 0] 213)) := ((Below.refl _ _).alloc (Nat.le_refl _) _).alloc (by simp) _
  have T0 : Two ((w.alloc (.cells #[.slice none 0 0, .slice none 0 0] 213)).alloc (.cells #[.slice none 0 0, .slice none 0 0] 213)) w.heap.size (.slice none 0 0) (.slice none 0 0) := ⟨by simp [go_sem], by simp [go_sem], by simp [go_sem], by simp [go_sem]⟩
  have T1 : Two ((w.alloc (.cells #[.slice none 0 0, .slice none 0 0] 213)).alloc (.cells #[.slice none 0 0, .slice none 0 0] 213)) (w.heap.size + 1) (.slice none 0 0) (.slice none 0 0) := ⟨by simp [go_sem], by simp [go_sem], by simp [go_sem], by simp [go_sem]⟩
  have hsz : w.heap.size + 2 ≤ ((w.alloc (.cells #[.slice none 0 0, .slice none 0 0] 213)).alloc (.cells #[.slice none 0 0, .slice none 0 0] 213)).heap.size := by simp
  go_enter Tryz.func137, Tryz.ntmps137
  go_wp2_with fail
  go_loopw [20] (fun i wr => ∃ (k : Nat) (L : List (List ItemL × List Value)) (v : Value), k ≤ ws.length ∧ i = .int .i64 k ∧ L.length = k ∧ Hid (L.map (·.1) = ws.take k) ∧ GathW w wr (w.heap.size + 2) v L ∧ Two wr w.heap.size (.slice none 0 0) (.slice none 0 0) ∧ Two wr (w.heap.size + 1) v (.slice none 0 0) ∧ Hid (∀ j, (h : j < ws.length) → j < k → WinP ws[j]) ∧ w.heap.size + 2 ≤ wr.heap.size ∧ Below w.heap.size w wr) (fun i _ => ws.length - (intOf i).toNat)
  case atStart => exact ⟨0, [], _, Nat.zero_le _, rfl, rfl, by simp [Hid], ⟨World.ownsRow_nil _ _ _ _, by simp⟩, T0, T1, fun _ _ h => absurd h (Nat.not_lt_zero _), hsz, B0⟩
  case round =>
    clear B0 T0 T1 hsz
    obtain ⟨k, L, v, hk, rfl, hLk, HLT, hL, T0, T1, HI, hsz, hbl⟩ := hrel
    by_cases hlt : k < ws.length
    · obtain ⟨b1, o1, rfl, g1, s1, t1, f1, hc1, q1⟩ := hr k hlt
      have f1' := cell_on hbl g1 f1
      have k0 : (0 : Int) ≤ (k : Int) := by omega
      have k1 : (k : Int) < (ws.length : Int) := by omega
      obtain ⟨fy0, fy1, fy2, fy3⟩ := id T1
      go_wp2_with fail
      refine (readWindow_from w s1 t1 ws[k] _ (hf.2 k hlt) q1 hbl).mono ?_
      rintro e w1 ⟨hE, b1'⟩
      have B1 : Below w.heap.size w w1 := hbl.trans (b1'.mono hbl.size)
      replace T0 := T0.keep b1'
      replace T1 := T1.keep b1'
      replace hL := hL.keep b1'
      have z1 := b1'.size
      rcases hE with ⟨vv, rfl, hp, hv⟩ | ⟨vv, rfl, hp, hv⟩
      · have HP : Hid (WinP ws[k]) := hp
        clear hp
        obtain ⟨x0, x1, x2, x3, a0, a1, a2, a3, n0, n1, n2, n3, c0, c1, c2, c3, rfl, hwc⟩ := hv.cells
        have hbw : Below w1.heap.size w1 (w1.alloc (.cells #[.int .i64 x0, .slice a0 n0 c0, .int .i64 x1, .slice a1 n1 c1, .int .i64 x2, .slice a2 n2 c2, .int .i64 x3, .slice a3 n3 c3, .int .i64 0, .int .i64 ws[k].length] 190)) := (Below.refl _ _).alloc (Nat.le_refl _) _
        have T1w := T1.keep hbw
        obtain ⟨u0, u1, u2, u3⟩ := T1w
        have hbx : Below w1.heap.size w1 ((w1.alloc (.cells #[.int .i64 x0, .slice a0 n0 c0, .int .i64 x1, .slice a1 n1 c1, .int .i64 x2, .slice a2 n2 c2, .int .i64 x3, .slice a3 n3 c3, .int .i64 0, .int .i64 ws[k].length] 190)).alloc (.cells #[.int .i64 x0, .slice a0 n0 c0, .int .i64 x1, .slice a1 n1 c1, .int .i64 x2, .slice a2 n2 c2, .int .i64 x3, .slice a3 n3 c3, .int .i64 0, .int .i64 ws[k].length] 190)) := hbw.alloc hbw.size _
        have hL2 := hL.keep hbx
        have T02 := T0.keep hbx
        have T12 := T1.keep hbx
        have hfar0 : some w.heap.size ≠ v.ownBlock := fun e => by have := own_from hL.1 _ e.symm; omega
        have hfar1 : some (w.heap.size + 1) ≠ v.ownBlock := fun e => by have := own_from hL.1 _ e.symm; omega
        have hzz : w.heap.size + 2 ≤ ((w1.alloc (.cells #[.int .i64 x0, .slice a0 n0 c0, .int .i64 x1, .slice a1 n1 c1, .int .i64 x2, .slice a2 n2 c2, .int .i64 x3, .slice a3 n3 c3, .int .i64 0, .int .i64 ws[k].length] 190)).alloc (.cells #[.int .i64 x0, .slice a0 n0 c0, .int .i64 x1, .slice a1 n1 c1, .int .i64 x2, .slice a2 n2 c2, .int .i64 x3, .slice a3 n3 c3, .int .i64 0, .int .i64 ws[k].length] 190)).heap.size := by simp; omega
        clear hv
        go_wp2_with (first | (at_builtin; refine Hid.out ?_))
        unfold Hid
        refine wpList_append_lies _ rfl _ _ 210 rfl (w.heap.size + 2) 190 i0 (.agg zero10) 10 144 Tryz.underlying210 hi hy0 hy1 hy2 rfl (by decide) _ L.length (vcells L) rfl hL2.1 ⟨w1.heap.size + 1, 0, none⟩ 1 1 #[.int .i64 x0, .slice a0 n0 c0, .int .i64 x1, .slice a1 n1 c1, .int .i64 x2, .slice a2 n2 c2, .int .i64 x3, .slice a3 n3 c3, .int .i64 0, .int .i64 ws[k].length].toList rfl rfl (by have h := block_new (w1.alloc (.cells #[.int .i64 x0, .slice a0 n0 c0, .int .i64 x1, .slice a1 n1 c1, .int .i64 x2, .slice a2 n2 c2, .int .i64 x3, .slice a3 n3 c3, .int .i64 0, .int .i64 ws[k].length] 190)) #[.int .i64 x0, .slice a0 n0 c0, .int .i64 x1, .slice a1 n1 c1, .int .i64 x2, .slice a2 n2 c2, .int .i64 x3, .slice a3 n3 c3, .int .i64 0, .int .i64 ws[k].length] 190; rw [World.size_alloc] at h; exact h) (by simp [Value.oneCell']) (by decide) (by unfold maxLen; omega) (by omega) hzz _ rfl ?_
        intro g' cap' w5 hown' hgrow _ hloc
        have T15 := T12.grown hgrow hfar1
        have T05 := T02.grown hgrow hfar0
        have p0 := T15.1
        have p1 := T15.2.2.1
        go_wp2_with fail
        have BX : Below w.heap.size w ((w1.alloc (.cells #[.int .i64 x0, .slice a0 n0 c0, .int .i64 x1, .slice a1 n1 c1, .int .i64 x2, .slice a2 n2 c2, .int .i64 x3, .slice a3 n3 c3, .int .i64 0, .int .i64 ws[k].length] 190)).alloc (.cells #[.int .i64 x0, .slice a0 n0 c0, .int .i64 x1, .slice a1 n1 c1, .int .i64 x2, .slice a2 n2 c2, .int .i64 x3, .slice a3 n3 c3, .int .i64 0, .int .i64 ws[k].length] 190)) := B1.trans (hbx.mono B1.size)
        have B5 := BX.grown hgrow BX.size (fun q hq => by have := own_from hL.1 q hq; omega)
        rw [hLk] at hown'
        have HT : Hid (ws.take (k + 1) = ws.take k ++ [ws[k]]) := List.take_succ_eq_append_getElem hlt
        have HST : Hid (∀ j, (h : j < ws.length) → j < k + 1 → WinP ws[j]) := win_step HI.out hlt HP.out
        have hG5 := hL2.snoc hwc (by rw [hLk]; exact hown')
        have z5 := hgrow.size
        exact ⟨⟨k + 1, _, _, by omega, by go_num, by simp [hLk], by rw [HT.out, List.map_append, HLT.out]; rfl, ⟨own_far hG5.1 (by omega) _ _, hG5.2⟩, T05.far (by omega) _ _, T15.set0 _, HST, by simp only [World.size_setCell]; omega, B5.setCell (by simp only; omega) _⟩, by simp [intOf]; omega⟩
      · have HN : Hid (¬ OkW ws) := fun h => hp (h.2.2 k hlt)
        clear hp
        obtain ⟨x0, x1, x2, x3, a0, a1, a2, a3, n0, n1, n2, n3, c0, c1, c2, c3, rfl, _⟩ := hv.laid
        have hbw : Below w1.heap.size w1 (w1.alloc (.cells #[.int .i64 x0, .slice a0 n0 c0, .int .i64 x1, .slice a1 n1 c1, .int .i64 x2, .slice a2 n2 c2, .int .i64 x3, .slice a3 n3 c3, .int .i64 0, .int .i64 0] 190)) := (Below.refl _ _).alloc (Nat.le_refl _) _
        have T0w := T0.keep hbw
        obtain ⟨u0, u1, u2, u3⟩ := T0w
        have BW := B1.trans (hbw.mono B1.size)
        go_wp2_with fail
        generalize w1.alloc (.cells #[.int .i64 x0, .slice a0 n0 c0, .int .i64 x1, .slice a1 n1 c1, .int .i64 x2, .slice a2 n2 c2, .int .i64 x3, .slice a3 n3 c3, .int .i64 0, .int .i64 0] 190) = WX at *
        have e0 : ((WX.setCell ⟨w.heap.size, 0, none⟩ (.slice none 0 0)).setCell ⟨w.heap.size, 1, none⟩ (.slice none 0 0)).cell? ⟨w.heap.size, 0, none⟩ = some (.slice none 0 0) := by simp [go_sem, u0]
        have e1 : ((WX.setCell ⟨w.heap.size, 0, none⟩ (.slice none 0 0)).setCell ⟨w.heap.size, 1, none⟩ (.slice none 0 0)).cell? ⟨w.heap.size, 1, none⟩ = some (.slice none 0 0) := by simp [go_sem, u1]
        exact bodyPost_ret (v := .tuple #[.agg #[.slice none 0 0, .slice none 0 0], .bool false]) (by simp [results, Tryz.results137, go_sem, e0, e1]) rfl ⟨.inr ⟨rfl, HN.out⟩, (BW.setCell (Nat.le_refl _) _).setCell (Nat.le_refl _) _⟩
    · obtain ⟨va, vc, rfl, hvc, hrow⟩ := hL.row
      have HOK : Hid (OkW ws) := ⟨by omega, by omega, fun j hj => HI.out j hj (by omega)⟩
      have hLw : L.length = ws.length := by omega
      replace HLT : Hid (L.map (·.1) = ws) := by unfold Hid; rw [HLT.out, List.take_of_length_le (by omega)]
      rw [HLT.out] at hrow
      rw [hLw] at hvc T1 hL
      obtain ⟨u0, u1, u2, u3⟩ := id T1
      clear HI
      go_wp2_with fail
      refine (sharedSpots_any w wr va vc ws hrow hbl HOK.out).mono ?_
      rintro e w1 ⟨⟨vs, M, rfl, hM, hsw⟩, b1⟩
      obtain ⟨sa, sc, rfl, hsc, _⟩ := hM.row
      have HSW : Hid (ShW ws (M.map (·.1))) := hsw
      clear hsw
      have B1 : Below w.heap.size w w1 := hbl.trans (b1.mono hbl.size)
      have hL1 := hL.keep b1
      have T01 := T0.keep b1
      have T11 := T1.keep b1
      have z1 := b1.size
      clear u0 u1 u2 u3 hrow T0 T1
      obtain ⟨u0, u1, u2, u3⟩ := id T11
      obtain ⟨y0, y1, y2, y3⟩ := id T01
      go_wp2_with fail
      have hLf := ((hL1.far (q := w.heap.size + 1) (by omega) 1 (.slice sa M.length sc)).far (q := w.heap.size) (by omega) 0 (.slice va ws.length vc)).far (q := w.heap.size) (by omega) 1 (.slice sa M.length sc)
      have hMf := ((hM.far (q := w.heap.size + 1) (by omega) 1 (.slice sa M.length sc)).far (q := w.heap.size) (by omega) 0 (.slice va ws.length vc)).far (q := w.heap.size) (by omega) 1 (.slice sa M.length sc)
      have BF := ((B1.setCell (p := ⟨w.heap.size + 1, 1, none⟩) (by simp only; omega) (.slice sa M.length sc)).setCell (p := ⟨w.heap.size, 0, none⟩) (Nat.le_refl _) (.slice va ws.length vc)).setCell (p := ⟨w.heap.size, 1, none⟩) (Nat.le_refl _) (.slice sa M.length sc)
      have e0 : (((w1.setCell ⟨w.heap.size + 1, 1, none⟩ (.slice sa M.length sc)).setCell ⟨w.heap.size, 0, none⟩ (.slice va ws.length vc)).setCell ⟨w.heap.size, 1, none⟩ (.slice sa M.length sc)).cell? ⟨w.heap.size, 0, none⟩ = some (.slice va ws.length vc) := by simp [go_sem, y0]
      have e1 : (((w1.setCell ⟨w.heap.size + 1, 1, none⟩ (.slice sa M.length sc)).setCell ⟨w.heap.size, 0, none⟩ (.slice va ws.length vc)).setCell ⟨w.heap.size, 1, none⟩ (.slice sa M.length sc)).cell? ⟨w.heap.size, 1, none⟩ = some (.slice sa M.length sc) := by simp [go_sem, y1]
      generalize ((w1.setCell ⟨w.heap.size + 1, 1, none⟩ (.slice sa M.length sc)).setCell ⟨w.heap.size, 0, none⟩ (.slice va ws.length vc)).setCell ⟨w.heap.size, 1, none⟩ (.slice sa M.length sc) = WF at *
      obtain ⟨a8, c8, q8, _, r8⟩ := hLf.row
      obtain ⟨a9, c9, q9, _, r9⟩ := hMf.row
      rw [hLw] at q8
      cases q8
      cases q9
      rw [HLT.out] at r8
      exact bodyPost_ret (v := .tuple #[.agg #[.slice va ws.length vc, .slice sa M.length sc], .bool true]) (by simp [results, Tryz.results137, go_sem, e0, e1]) rfl ⟨.inl ⟨va, vc, sa, sc, M.map (·.1), by simp, HOK.out, hvc, by rw [List.length_map]; exact hsc, r8, r9, HSW.out⟩, BF⟩

end Go.Proofs.YtpfhegengmlkmacGreatDoor
/- Walk: impl.ChoiceAgrees. -/
namespace Go.Proofs.YtpfhegengmlkmacGreatDoor
open Go.RowKit Go.BigFrame
set_option maxRecDepth 100000

theorem chB_new {W0 w : World} {a1 a2 : Option Addr} {c1 c2 : Nat} {ws : List (List ItemL)} {sh : List (List Spot)} (hv : RowV W0 w a1 ws) (hg : RowG w a2 sh) (h1 : ws.length ≤ c1) (h2 : sh.length ≤ c2) : ChB W0 (w.alloc (.cells #[.slice a1 ws.length c1, .slice a2 sh.length c2] 213)) w.heap.size ws sh :=
  have hb : Below w.heap.size w (w.alloc (.cells #[.slice a1 ws.length c1, .slice a2 sh.length c2] 213)) := (Below.refl _ _).alloc (Nat.le_refl _) _
  ⟨box_lt _ _, a1, c1, a2, c2, box0 _ _ _ _, h1, box1 _ _ _ _, h2, hv.below hb, hg.below hb⟩

end Go.Proofs.YtpfhegengmlkmacGreatDoor
/- Walks: lasts, least, greatest of choices; impl.ChoiceBest. -/
namespace Go.Proofs.YtpfhegengmlkmacGreatDoor
open Go.RowKit Go.BigFrame
set_option maxRecDepth 100000

/-- The places of the last items. -/
def lastsM (ws : List (List ItemL)) : List Int := ws.map fun l => (l.length : Int) - 1
theorem lastsM_len (ws : List (List ItemL)) : (lastsM ws).length = ws.length := by simp [lastsM]

theorem GathN.snoc {w : World} {B : Nat} {v : Value} {l : List Int} {x : Int} (h : w.ownsRow B 3 1 v (l.length + 1) ((l.map fun y => .int .i64 y) ++ [.int .i64 x])) : GathN w B v (l ++ [x]) := by
  unfold GathN
  rw [List.length_append, List.map_append]
  exact h

set_option maxHeartbeats 1600000 in
theorem lasts_any (W0 w : World) (b : Nat) (ws : List (List ItemL)) (sh : List (List Spot)) (h : ChB W0 w b ws sh) (hok : OkW ws) :
    Calls Tryz.prog 174 #[.pointer (some ⟨b, 0, none⟩)] w fun e w' => (∃ g c ok, e = .returned (.tuple #[.slice (some ⟨g, 0, none⟩) ws.length c, .bool ok]) ∧ (ok = true ↔ InW ws (lastsM ws)) ∧ w.heap.size ≤ g ∧ NumB w' g (lastsM ws)) ∧ Below w.heap.size w w' := by
  have h6 := hok.2.1
  have HC : Hid (ChB W0 w b ws sh) := h
  obtain ⟨hb, a, c, a2, c2, e0, hc, e1, hc2, hv, hg⟩ := h
  obtain ⟨i0, hi, hy0, hy1, hy2⟩ := info_parts Tryz.infoZ
  have hmk : ∀ u : World, (Instr.makeSlice 37 (.int .i64 0) (.int .i64 (ws.length : Int))).run Tryz.prog u = .ok (.slice (some ⟨u.heap.size, 0, none⟩) 0 ws.length) (u.alloc (.cells (madeCells #[.int .i64 0] ws.length) 3)) := fun u => by
    have h := run_make (P := Tryz.prog) u 37 3 i0 (.int .i64 0) Tryz.underlying37 hi hy0 .i64 .i64 0 (ws.length : Int) (by omega) (by omega) (by rw [hy2]; omega) (by omega)
    simpa [hy1, Value.cells] using h
  have hg0 : GathN (w.alloc (.cells (madeCells #[.int .i64 0] ws.length) 3)) w.heap.size (.slice (some ⟨w.heap.size, 0, none⟩) 0 ws.length) [] :=
    ⟨rfl, .inr ⟨w.heap.size, ws.length, madeCells #[.int .i64 0] ws.length, rfl, Nat.le_refl _, heap_alloc_new w _, Nat.zero_le _, by unfold maxLen; omega, by rw [size_madeCells]; omega, rfl⟩⟩
  have hb0 : Below w.heap.size w (w.alloc (.cells (madeCells #[.int .i64 0] ws.length) 3)) := (Below.refl _ _).alloc (Nat.le_refl _) _
  have e0' := cell_on hb0 hb e0
  go_enter Tryz.func174, Tryz.ntmps174
  go_wp2_with fail
  generalize (w.alloc (.cells (madeCells #[.int .i64 0] ws.length) 3)) = WA at *
  clear hmk
  go_loopw [4, 17] (fun pv i wr => ∃ k : Nat, k ≤ ws.length ∧ i = .int .i64 k ∧ (∃ g cap, pv = .slice (some ⟨g, 0, none⟩) k cap ∧ GathN wr w.heap.size (.slice (some ⟨g, 0, none⟩) k cap) ((lastsM ws).take k)) ∧ Below w.heap.size w wr) (fun _ i _ => ws.length - (intOf i).toNat)
  case atStart => exact ⟨0, Nat.zero_le _, rfl, ⟨_, _, rfl, hg0⟩, hb0⟩
  case round =>
    obtain ⟨k, hk, rfl, ⟨g, cap, rfl, hgn⟩, hbl⟩ := hrel
    have hz := hbl.size
    have htl : ((lastsM ws).take k).length = k := by rw [List.length_take, lastsM_len]; omega
    by_cases hlt : k < ws.length
    · obtain ⟨gv, ov, rfl, hwo⟩ := (hv.below hbl) k hlt
      have f0 := cell_on hbl hb e0
      have k0 : (0 : Int) ≤ (k : Int) := by omega
      have k1 : (k : Int) < (ws.length : Int) := by omega
      have h4 := hwo.2.1
      have HT : Hid ((lastsM ws).take (k + 1) = (lastsM ws).take k ++ [(ws[k].length : Int) - 1]) := by
        unfold Hid
        rw [List.take_succ_eq_append_getElem (by rw [lastsM_len]; exact hlt)]
        simp [lastsM]
      go_wp2_with fail
      refine (size_off W0 _ gv (ov + k * 10) ws[k] hwo).mono ?_
      rintro e w2 ⟨rfl, rfl⟩
      go_wp2_with (at_builtin; refine wpList_append_lies _ rfl _ _ 37 rfl w.heap.size 3 i0 (.int .i64 0) 1 8 Tryz.underlying37 hi hy0 hy1 hy2 rfl (by decide) _ _ _ rfl (own_keep (show World.ownsRow _ _ _ _ _ _ _ from hgn) ((Below.refl _ _).alloc (Nat.le_refl _) _)) ⟨w2.heap.size, 0, none⟩ 1 1 [.int .i64 ((ws[k].length : Int) - 1)] rfl rfl (one_new w2 _ _) (by simp [Value.oneCell']) (by decide) (by unfold maxLen; omega) (by omega) (by simp; omega) _ rfl ?_; intro g' cap' w5 hown' hgrow _ _)
      have hgs := GathN.snoc hown'
      rw [← HT.out, htl] at hgs
      have hB5 : Below w.heap.size w w5 := (hbl.alloc hz _).grown hgrow (by simp; omega) (fun q hq => by have := own_from (show World.ownsRow _ _ _ _ _ _ _ from hgn) q hq; omega)
      exact ⟨⟨k + 1, by omega, by go_num, ⟨g', cap', rfl, hgs⟩, hB5⟩, by simp [intOf]; omega⟩
    · obtain rfl : k = ws.length := by omega
      have hfull : (lastsM ws).take ws.length = lastsM ws := List.take_of_length_le (by rw [lastsM_len]; omega)
      rw [hfull] at hgn
      obtain ⟨hgB, hnb⟩ := GathN.block hgn
      have hhas := has_any W0 wr b ws sh (some ⟨g, 0, none⟩) cap (lastsM ws) (HC.out.below hbl) h6 (by rw [lastsM_len]; unfold maxLen; omega) hnb.row
      rw [lastsM_len] at hhas
      clear htl hfull hgn
      go_wp2_with fail
      refine hhas.mono ?_
      rintro e w2 ⟨⟨r, rfl, hr2⟩, b2⟩
      have HR : Hid (r = true ↔ InW ws (lastsM ws)) := hr2.trans ⟨fun h => h.2, fun h => ⟨trivial, h⟩⟩
      clear hr2
      go_wp2_with fail
      exact bodyPost_ret (v := .tuple #[.slice (some ⟨g, 0, none⟩) ws.length cap, .bool r]) (by simp [results, Tryz.results174, go_sem]) rfl ⟨⟨g, cap, r, rfl, HR.out, hgB, hnb.below b2⟩, hbl.trans (b2.mono hbl.size)⟩

theorem ver_le {ws : List (List ItemL)} {ps : List Int} (hok : OkW ws) (hl : ps.length = ws.length) (hin : InW ws ps) {s : ByteArray} {p : Spot} (hs : SpotOf ws s p) : verM ws ps p ≤ 1099511627776 := by
  obtain ⟨hw, _, q, hq, hm, _, e⟩ := ver_facts hok hl hin hs
  rw [e]
  exact ((((hok.2.2 p.1 hw).2.1 q hq).1).2.1 p.2 hm).2.2

set_option maxHeartbeats 1600000 in
theorem least_any (W0 w : World) (b : Nat) (ws : List (List ItemL)) (sh : List (List Spot)) (a' s' : Option Addr) (cap' cs : Nat) (ps : List Int) (src : List Spot) (h : ChB W0 w b ws sh) (hW : Below W0.heap.size W0 w) (hok : OkW ws) (hl : ps.length = ws.length) (hin : InW ws ps) (hr' : RowZ w a' ps) (hsh : ShW ws sh) (hs : src ∈ sh) (hrow : RowP w s' src) :
    Calls Tryz.prog 175 #[.pointer (some ⟨b, 0, none⟩), .slice a' ps.length cap', .slice s' src.length cs] w fun e w' => (∃ x : Int, e = .returned (.int .i64 x) ∧ (∀ p ∈ src, x ≤ verM ws ps p) ∧ ∃ p ∈ src, x = verM ws ps p) ∧ Below w.heap.size w w' := by
  have HIN : Hid (InW ws ps) := hin
  have HOK : Hid (OkW ws) := hok
  have HSH : Hid (ShW ws sh) := hsh
  have HC : Hid (ChB W0 w b ws sh) := h
  have HL : Hid (ps.length = ws.length) := hl
  have HZ : Hid (RowZ w a' ps) := hr'
  have hs1 := hsh.2.1 src hs
  have hsl := hs1.2
  have hs0 := hs1.1
  clear hin hok hsh h hl hr' hs1
  go_enter Tryz.func175, Tryz.ntmps175
  go_wp2_with fail
  go_loopw [7, 12] (fun lv i wr => ∃ (k : Nat) (x : Int), k ≤ src.length ∧ i = .int .i64 k ∧ lv = .int .i64 x ∧ Hid ((∀ j, (h : j < src.length) → j < k → x ≤ verM ws ps src[j]) ∧ (x = 1099511627776 ∨ ∃ j, ∃ h : j < src.length, x = verM ws ps src[j])) ∧ Below w.heap.size w wr) (fun _ i _ => src.length - (intOf i).toNat)
  case atStart => exact ⟨0, _, Nat.zero_le _, rfl, rfl, ⟨fun _ _ h => absurd h (Nat.not_lt_zero _), .inl rfl⟩, Below.refl _ _⟩
  case round =>
    obtain ⟨k, x, hk, rfl, rfl, HI, hbl⟩ := hrel
    by_cases hlt : k < src.length
    · obtain ⟨b2, o2, rfl, hb2, f2, f3⟩ := hrow.below hbl k hlt
      have k0 : (0 : Int) ≤ (k : Int) := by omega
      have k1 : (k : Int) < (src.length : Int) := by omega
      go_wp2_with fail
      have hb0 : Below wr.heap.size wr (wr.alloc (.cells #[.int .i64 (src[k].1 : Int), .int .i64 (src[k].2 : Int)] 245)) := (Below.refl _ _).alloc (Nat.le_refl _) _
      have B3 : Below w.heap.size w (wr.alloc (.cells #[.int .i64 (src[k].1 : Int), .int .i64 (src[k].2 : Int)] 245)) := hbl.trans (hb0.mono hbl.size)
      obtain ⟨sn, hall⟩ := HSH.out.1.1 src hs
      refine (version_any W0 _ b ws sh a' cap' ps src[k] sn (HC.out.below B3) (hW.trans (B3.mono hW.size)) HOK.out HL.out HIN.out (HZ.out.below B3) (hall _ (List.getElem_mem hlt))).mono ?_
      rintro e w2 ⟨rfl, b2'⟩
      have B4 : Below w.heap.size w w2 := B3.trans (b2'.mono B3.size)
      go_wp2_with fail
      have HX : Hid ((∀ j, (h : j < src.length) → j < k + 1 → min x (verM ws ps src[k]) ≤ verM ws ps src[j]) ∧ (min x (verM ws ps src[k]) = 1099511627776 ∨ ∃ j, ∃ h : j < src.length, min x (verM ws ps src[k]) = verM ws ps src[j])) := by
        obtain ⟨h1, h2⟩ := HI.out
        refine ⟨fun j hj hlt' => ?_, ?_⟩
        · by_cases e : j = k
          · subst e; omega
          · have := h1 j hj (by omega); omega
        · by_cases e : x ≤ verM ws ps src[k]
          · rw [Int.min_eq_left e]; exact h2
          · exact .inr ⟨k, hlt, by rw [Int.min_eq_right (by omega)]⟩
      exact ⟨⟨k + 1, _, by omega, by go_num, rfl, HX, B4⟩, by simp [intOf]; omega⟩
    · have HX : Hid ((∀ p ∈ src, x ≤ verM ws ps p) ∧ ∃ p ∈ src, x = verM ws ps p) := by
        obtain ⟨h1, h2⟩ := HI.out
        obtain ⟨sn, hall⟩ := HSH.out.1.1 src hs
        refine ⟨fun p hp => ?_, ?_⟩
        · obtain ⟨j, hj, rfl⟩ := List.mem_iff_getElem.1 hp
          exact h1 j hj (by omega)
        · rcases h2 with h2 | ⟨j, hj, h2⟩
          · have h3 := h1 0 (by omega) (by omega)
            have h4 := ver_le HOK.out HL.out HIN.out (hall _ (List.getElem_mem (show 0 < src.length by omega)))
            exact ⟨src[0], List.getElem_mem _, by omega⟩
          · exact ⟨_, List.getElem_mem hj, h2⟩
      go_wp2_with fail
      go_ret
      exact ⟨⟨x, rfl, HX.out⟩, hbl⟩

end Go.Proofs.YtpfhegengmlkmacGreatDoor
/- Walks: greatest of choices; impl.ChoiceBest. -/
namespace Go.Proofs.YtpfhegengmlkmacGreatDoor
open Go.RowKit Go.BigFrame
set_option maxRecDepth 100000

/-- No choice that agrees is ahead of these places. -/
def UpP (ws : List (List ItemL)) (ps : List Int) : Prop := ∀ q, ChP ws q → ∀ i, (hq : i < q.length) → (ho : i < ps.length) → q[i] ≤ ps[i]
/-- How far there is to go back. -/
def farM : List Int → Nat
  | [] => 0
  | x :: r => x.toNat + farM r
theorem farM_set : ∀ (l : List Int) (i : Nat) (h : i < l.length), 0 < l[i] → farM (l.set i (l[i] - 1)) < farM l
  | x :: r, 0, _, h0 => by
    simp only [List.getElem_cons_zero] at h0
    simp only [List.set_cons_zero, farM, List.getElem_cons_zero]
    omega
  | x :: r, i + 1, h, h0 => by
    have := farM_set r i (by simpa using h) (by simpa using h0)
    simp only [List.getElem_cons_succ, List.set_cons_succ, farM]
    omega
theorem lasts_up {ws : List (List ItemL)} : UpP ws (lastsM ws) := fun q hc i hq ho => by
  have h1 := hc.2.2.1.2 i hq
  have hw : i < ws.length := by rw [← hc.2.1]; exact hq
  have e : ws.getD i [] = ws[i] := by simp [List.getD, hw]
  rw [e] at h1
  simp only [lastsM, List.getElem_map]
  omega
theorem up_back {ws : List (List ItemL)} {ps : List Int} {sh : List (List Spot)} (hok : OkW ws) (hl : ps.length = ws.length) (hin : InW ws ps) (hsh : SharedP ws sh) (hub : UpP ws ps) {src : List Spot} (hs : src ∈ sh) {p : Spot} (hp : p ∈ src) {x : Int} (hx : ∃ r ∈ src, x = verM ws ps r) (hle : x ≤ verM ws ps p) (hne : ¬ verM ws ps p = x) (hw : p.1 < ps.length) :
    (ps[p.1] = 0 → ∀ q, ¬ ChP ws q) ∧ (¬ ps[p.1] = 0 → InW ws (ps.set p.1 (ps[p.1] - 1)) ∧ UpP ws (ps.set p.1 (ps[p.1] - 1)) ∧ farM (ps.set p.1 (ps[p.1] - 1)) < farM ps) := by
  obtain ⟨r, hr, e⟩ := hx
  have key := step_back hok hl hin hsh hub hs hp hr (by omega)
  have h0 := hin.2 p.1 hw
  refine ⟨fun hz q hq => ?_, fun hz => ⟨⟨by rw [List.length_set]; exact hin.1, fun i hi => ?_⟩, fun q hq i hiq hio => ?_, farM_set ps p.1 hw (by omega)⟩⟩
  · have h1 := key q hq (by rw [hq.2.1]; omega) hw
    have h2 := hq.2.2.1.2 p.1 (by rw [hq.2.1]; omega)
    omega
  · have hi' : i < ps.length := by simpa using hi
    by_cases e2 : i = p.1
    · subst e2
      rw [List.getElem_set_self]
      omega
    · rw [List.getElem_set_ne (fun h => e2 h.symm)]
      exact hin.2 i hi'
  · have hi' : i < ps.length := by simpa using hio
    by_cases e2 : i = p.1
    · subst e2
      rw [List.getElem_set_self]
      have := key q hq hiq hw
      omega
    · rw [List.getElem_set_ne (fun h => e2 h.symm)]
      exact hub q hq i hiq hi'

/-- What greatest answers. -/
def BesE (w w' : World) (ws : List (List ItemL)) (e : Ending) : Prop := (∃ g c out, e = .returned (.tuple #[.slice (some ⟨g, 0, none⟩) out.length c, .bool true]) ∧ BestP ws out true ∧ w.heap.size ≤ g ∧ NumB w' g out) ∨ (e = .returned (.tuple #[.slice none 0 0, .bool false]) ∧ BestP ws [] false)

set_option maxHeartbeats 3200000 in
theorem greatest_any (W0 w : World) (b : Nat) (ws : List (List ItemL)) (sh : List (List Spot)) (h : ChB W0 w b ws sh) (hW : Below W0.heap.size W0 w) (hok : OkW ws) (hsh : ShW ws sh) :
    Calls Tryz.prog 138 #[.pointer (some ⟨b, 0, none⟩)] w fun e w' => BesE w w' ws e ∧ Below w.heap.size w w' := by
  have HOK : Hid (OkW ws) := hok
  have HSH : Hid (ShW ws sh) := hsh
  have HC : Hid (ChB W0 w b ws sh) := h
  have h6 := hok.2.1
  have hshl := hsh.2.2
  clear hok hsh
  go_enter Tryz.func138, Tryz.ntmps138
  go_wp2_with fail
  go_step3
  go_wp2_with fail
  refine (lasts_any W0 w b ws sh HC.out HOK.out).mono ?_
  rintro e w1 ⟨⟨g, c, ok, rfl, hok2, hge, hnb⟩, b1⟩
  have HR : Hid (ok = true ↔ InW ws (lastsM ws)) := hok2
  clear hok2
  cases ok with
  | false =>
    have HN : Hid (BestP ws [] false) := .inr ⟨rfl, rfl, fun q hq => by
      have : InW ws (lastsM ws) := ⟨by rw [lastsM_len]; exact Nat.le_refl _, fun i hi => by
        have hi' : i < ws.length := by simpa [lastsM_len] using hi
        have h1 := hq.2.2.1.2 i (by rw [hq.2.1]; exact hi')
        have e : ws.getD i [] = ws[i] := by simp [List.getD, hi']
        rw [e] at h1 ⊢
        simp only [lastsM, List.getElem_map]
        omega⟩
      have := HR.out.2 this
      simp at this⟩
    go_wp2_with fail
    try rw [Exit.noGoto_ret]
    exact bodyPost_ret (v := .tuple #[.slice none 0 0, .bool false]) (by simp [results, Tryz.results138, go_sem]) rfl ⟨.inr ⟨rfl, HN.out⟩, b1⟩
  | true =>
    have HIN : Hid (InW ws (lastsM ws)) := HR.out.1 rfl
    clear HR
    go_wp2_with fail
    go_step3
    go_wp2_with fail
    go_loopg [23] (farM (lastsM ws)) (fun gk u wr => ∃ ps : List Int, farM ps ≤ gk ∧ ps.length = ws.length ∧ Hid (InW ws ps) ∧ Hid (UpP ws ps) ∧ NumB wr g ps ∧ Below w.heap.size w wr)
    case atStart => exact ⟨lastsM ws, Nat.le_refl _, lastsM_len ws, HIN, lasts_up, hnb, b1⟩
    case round =>
      clear HIN hnb b1
      obtain ⟨ps, hfar, hlen, HIN, HUP, hnb, hbl⟩ := hrel
      have HLEN : Hid (ps.length = ws.length) := hlen
      clear hlen
      have hcb := HC.out.below hbl
      obtain ⟨hbb, va, vc, va', vc', e0, _, e1, _, _, hg⟩ := id hcb
      have hWr : Below W0.heap.size W0 wr := hW.trans (hbl.mono hW.size)
      go_wp2_with fail
      go_loopw [23] (fun i wr2 => ∃ k : Nat, k ≤ sh.length ∧ i = .int .i64 k ∧ Hid (∀ j, (h : j < sh.length) → j < k → SameTo ws ps sh[j] sh[j].length) ∧ Below wr.heap.size wr wr2) (fun i _ => sh.length - (intOf i).toNat)
      case atStart => exact ⟨0, Nat.zero_le _, rfl, fun _ _ h => absurd h (Nat.not_lt_zero _), Below.refl _ _⟩
      case round =>
        obtain ⟨k, hk, rfl, HI, hbl2⟩ := hrel
        by_cases hlt : k < sh.length
        · obtain ⟨b1, o1, rfl, hb1, s1, t1, f1, ht1, hpr⟩ := hg.below hbl2 k hlt
          have k0 : (0 : Int) ≤ (k : Int) := by omega
          have k1 : (k : Int) < (sh.length : Int) := by omega
          have hsrc := HSH.out.2.1 sh[k] (List.getElem_mem hlt)
          have hs1 := hsrc.1
          have hs2 := hsrc.2
          have hmem : sh[k] ∈ sh := List.getElem_mem hlt
          have hnb2 := hnb.below hbl2
          have hle := least_any W0 _ b ws sh (some ⟨g, 0, none⟩) s1 c t1 ps sh[k] (hcb.below hbl2) (hWr.trans (hbl2.mono hWr.size)) HOK.out HLEN.out HIN.out hnb2.row HSH.out hmem hpr
          rw [HLEN.out] at hle
          clear hsrc
          go_wp2_with fail
          refine hle.mono ?_
          rintro e w3 ⟨⟨x, rfl, hx1, hx2⟩, b3⟩
          have HX : Hid ((∀ p ∈ sh[k], x ≤ verM ws ps p) ∧ ∃ p ∈ sh[k], x = verM ws ps p) := ⟨hx1, hx2⟩
          have B3 := hbl2.trans (b3.mono hbl2.size)
          clear hle hx1 hx2 hnb2
          go_wp2_with fail
          have hpr3 := hpr.below b3
          have hnb3 := hnb.below B3
          have hcb3 := hcb.below B3
          have BW3 := hbl.trans (B3.mono hbl.size)
          clear hnb hcb hpr b3 hbl2 f1 hg e0 e1
          go_loopw [33] (fun i3 wr3 => ∃ j : Nat, j ≤ sh[k].length ∧ i3 = .int .i64 j ∧ Hid (∀ i, (h : i < sh[k].length) → i < j → verM ws ps sh[k][i] = x) ∧ Below w3.heap.size w3 wr3) (fun i3 _ => sh[k].length - (intOf i3).toNat)
          case atStart => exact ⟨0, Nat.zero_le _, rfl, fun _ _ h => absurd h (Nat.not_lt_zero _), Below.refl _ _⟩
          case round =>
            obtain ⟨j, hj, rfl, HJ, hbl3⟩ := hrel
            by_cases hjlt : j < sh[k].length
            · obtain ⟨b2, o2, rfl, hb2, f2, f3⟩ := hpr3.below hbl3 j hjlt
              have j0 : (0 : Int) ≤ (j : Int) := by omega
              have j1 : (j : Int) < (sh[k].length : Int) := by omega
              obtain ⟨sn, hall⟩ := HSH.out.1.1 sh[k] hmem
              have hspot := hall sh[k][j] (List.getElem_mem hjlt)
              obtain ⟨hpw, hpp, _⟩ := ver_facts HOK.out HLEN.out HIN.out hspot
              have hback := up_back HOK.out HLEN.out HIN.out HSH.out.1 HUP.out hmem (List.getElem_mem hjlt) HX.out.2 (HX.out.1 _ (List.getElem_mem hjlt))
              have HBK : Hid (∀ hne : ¬ verM ws ps sh[k][j] = x, (ps[sh[k][j].1] = 0 → ∀ q, ¬ ChP ws q) ∧ (¬ ps[sh[k][j].1] = 0 → InW ws (ps.set sh[k][j].1 (ps[sh[k][j].1] - 1)) ∧ UpP ws (ps.set sh[k][j].1 (ps[sh[k][j].1] - 1)) ∧ farM (ps.set sh[k][j].1 (ps[sh[k][j].1] - 1)) < farM ps)) := fun hne => hback hne hpp
              clear hback
              have hb0 : Below wr.heap.size wr (wr.alloc (.cells #[.int .i64 (sh[k][j].1 : Int), .int .i64 (sh[k][j].2 : Int)] 245)) := (Below.refl _ _).alloc (Nat.le_refl _) _
              have hlt0 := box_lt wr (.cells #[.int .i64 (sh[k][j].1 : Int), .int .i64 (sh[k][j].2 : Int)] 245)
              have d0 := box0 wr (.int .i64 (sh[k][j].1 : Int)) (.int .i64 (sh[k][j].2 : Int)) 245
              have hcb4 := (hcb3.below hbl3).below hb0
              have hnb4 := (hnb3.below hbl3).below hb0
              have BW := (BW3.trans (hbl3.mono BW3.size))
              have BW4 := BW.trans (hb0.mono BW.size)
              have hver := version_any W0 _ b ws sh (some ⟨g, 0, none⟩) c ps sh[k][j] sn hcb4 (hW.trans (BW4.mono hW.size)) HOK.out HLEN.out HIN.out hnb4.row hspot
              rw [HLEN.out] at hver
              clear hcb4
              go_wp2_with fail
              generalize wr.alloc (.cells #[.int .i64 (sh[k][j].1 : Int), .int .i64 (sh[k][j].2 : Int)] 245) = W at *
              refine hver.mono ?_
              rintro e w5 ⟨rfl, b5⟩
              have hnb5 := hnb4.below b5
              have d5 := cell_on b5 hlt0 d0
              have BW5 := BW4.trans (b5.mono BW4.size)
              have hbl5 := (hbl3.trans (hb0.mono hbl3.size)).trans (b5.mono (Nat.le_trans hbl3.size hb0.size))
              clear hver hnb4 d0
              by_cases he : verM ws ps sh[k][j] = x
              · have HJ2 : Hid (∀ i, (h : i < sh[k].length) → i < j + 1 → verM ws ps sh[k][i] = x) := fun i hi hlt' => by
                  by_cases e : i = j
                  · subst e; exact he
                  · exact HJ.out i hi (by omega)
                have he' : (verM ws ps sh[k][j] == x) = true := by rw [beq_iff_eq]; exact he
                clear he HBK
                go_wp2_with fail
                exact ⟨⟨j + 1, by omega, by go_num, HJ2, hbl5⟩, by simp [intOf]; omega⟩
              · have hb2k := HBK.out he
                have he' : (verM ws ps sh[k][j] == x) = false := by rw [beq_eq_false_iff_ne]; exact he
                have p0 := hnb5.cell hpp
                have p1 := hnb5.frozen sh[k][j].1
                have i0 : (0 : Int) ≤ (sh[k][j].1 : Int) := by omega
                have i1 : (sh[k][j].1 : Int) < (ws.length : Int) := by omega
                clear HBK he
                by_cases hz : ps[sh[k][j].1] = 0
                · have HN : Hid (BestP ws [] false) := .inr ⟨rfl, rfl, hb2k.1 hz⟩
                  have hz' : (ps[sh[k][j].1] == 0) = true := by rw [beq_iff_eq]; exact hz
                  clear hb2k hz
                  go_wp2_with fail
                  try rw [Exit.noGoto_ret]
                  exact bodyPost_ret (v := .tuple #[.slice none 0 0, .bool false]) (by simp [results, Tryz.results138, go_sem]) rfl ⟨.inr ⟨rfl, HN.out⟩, BW5⟩
                · have HBB : Hid (InW ws (ps.set sh[k][j].1 (ps[sh[k][j].1] - 1)) ∧ UpP ws (ps.set sh[k][j].1 (ps[sh[k][j].1] - 1)) ∧ farM (ps.set sh[k][j].1 (ps[sh[k][j].1] - 1)) < farM ps) := hb2k.2 hz
                  have hz' : (ps[sh[k][j].1] == 0) = false := by rw [beq_eq_false_iff_ne]; exact hz
                  have hpos : 0 ≤ ps[sh[k][j].1] ∧ ps[sh[k][j].1] ≤ 4 := by
                    have h3 := HIN.out.2 _ hpp
                    have e3 : ws.getD sh[k][j].1 [] = ws[sh[k][j].1] := by simp [List.getD, hpw]
                    rw [e3] at h3
                    have := (HOK.out.2.2 _ hpw).1
                    omega
                  have q0 := hpos.1
                  have q1 := hpos.2
                  clear hb2k hz hpos
                  go_wp2_with fail
                  go_roundg (farM (ps.set sh[k][j].1 (ps[sh[k][j].1] - 1)))
                  case measure => have := HBB.out.2.2; omega
                  case rel => exact ⟨ps.set sh[k][j].1 (ps[sh[k][j].1] - 1), Nat.le_refl _, by rw [List.length_set]; exact HLEN.out, HBB.out.1, HBB.out.2.1, hnb5.set _ _, BW5.setCell hge _⟩
            · have HI2 : Hid (∀ q, (h : q < sh.length) → q < k + 1 → SameTo ws ps sh[q] sh[q].length) := fun q hq hlt' => by
                by_cases e : q = k
                · subst e
                  exact fun i hi _ h0 => by rw [HJ.out i hi (by omega), HJ.out 0 h0 (by omega)]
                · exact HI.out q hq (by omega)
              go_wp2_with fail
              exact ⟨⟨k + 1, by omega, by go_num, HI2, B3.trans (hbl3.mono B3.size)⟩, by simp [intOf]; omega⟩
        · have HA : Hid (AgW ws ps) := agW_same HOK.out HLEN.out HIN.out HSH.out.1 (fun j hj => HI.out j hj (by omega))
          have HB : Hid (BestP ws ps true) := .inl ⟨rfl, ⟨HOK.out, HLEN.out, HIN.out, HA.out⟩, HUP.out⟩
          go_wp2_with fail
          try rw [Exit.noGoto_ret]
          exact bodyPost_ret (v := .tuple #[.slice (some ⟨g, 0, none⟩) ps.length c, .bool true]) (by simp [results, Tryz.results138, go_sem, HLEN.out]) rfl ⟨.inl ⟨g, c, ps, rfl, HB.out, hge, hnb.below hbl2⟩, hbl.trans (hbl2.mono hbl.size)⟩

set_option maxHeartbeats 800000 in
theorem implCB_any (a : Option Addr) (cap : Nat) (ws : List (List ItemL)) (w : World) (hf : FitW ws) (hr : RowW w a ws) :
    Calls Tryz.prog 96 #[.slice a ws.length cap] w fun e w' => BesE w w' ws e ∧ Below w.heap.size w w' := by
  go_enter Tryz.func96, Tryz.ntmps96
  go_wp2_with fail
  refine (readChoices_any a cap ws _ hf hr).mono ?_
  rintro e w1 ⟨hE, b1⟩
  rcases hE with ⟨a1, c1, a2, c2, sh, rfl, hok, hc1, hc2, hrv, hrg, hsw⟩ | ⟨rfl, hno⟩
  · have HOK : Hid (OkW ws) := hok
    have HSW : Hid (ShW ws sh) := hsw
    clear hok hsw
    have hcb := chB_new hrv hrg hc1 hc2
    have hbx : Below w1.heap.size w1 (w1.alloc (.cells #[.slice a1 ws.length c1, .slice a2 sh.length c2] 213)) := (Below.refl _ _).alloc (Nat.le_refl _) _
    have BX : Below w.heap.size w (w1.alloc (.cells #[.slice a1 ws.length c1, .slice a2 sh.length c2] 213)) := b1.trans (hbx.mono b1.size)
    go_wp2_with fail
    generalize w1.alloc (.cells #[.slice a1 ws.length c1, .slice a2 sh.length c2] 213) = W at *
    refine (greatest_any w W w1.heap.size ws sh hcb BX HOK.out HSW.out).mono ?_
    rintro e w2 ⟨hB, b2⟩
    have B2 : Below w.heap.size w w2 := BX.trans (b2.mono BX.size)
    rcases hB with ⟨g, c, out, rfl, hbest, hge, hnb⟩ | ⟨rfl, hbest⟩
    · have HB : Hid (BestP ws out true) := hbest
      clear hbest
      go_wp2_with fail
      exact bodyPost_ret (v := .tuple #[.slice (some ⟨g, 0, none⟩) out.length c, .bool true]) (by simp [results, Tryz.results96, go_sem]) rfl ⟨.inl ⟨g, c, out, rfl, HB.out, Nat.le_trans BX.size hge, hnb⟩, B2⟩
    · have HB : Hid (BestP ws [] false) := hbest
      clear hbest
      go_wp2_with fail
      exact bodyPost_ret (v := .tuple #[.slice none 0 0, .bool false]) (by simp [results, Tryz.results96, go_sem]) rfl ⟨.inr ⟨rfl, HB.out⟩, B2⟩
  · have HN : Hid (BestP ws [] false) := none_best (.inl hno)
    clear hno
    go_wp2_with fail
    exact bodyPost_ret (v := .tuple #[.slice none 0 0, .bool false]) (by simp [results, Tryz.results96, go_sem]) rfl ⟨.inr ⟨rfl, HN.out⟩, b1.alloc b1.size _⟩

end Go.Proofs.YtpfhegengmlkmacGreatDoor
/- Walks: spec.l1Set, spec.StampJoin. -/
namespace Go.Proofs.YtpfhegengmlkmacGreatDoor
open Go.RowKit Go.BigFrame

theorem setT_true_eq {m : ByteArray × Int} {o R l : List (ByteArray × Int)} {k : Nat} (hk : k < l.length) (h : o ++ setT m true (l.drop k) = R) (e : l[k].1 = m.1) : o ++ setT m true (l.drop (k + 1)) = R := by
  rw [List.drop_eq_getElem_cons hk] at h
  simp only [setT, if_true] at h ⊢
  rwa [List.filter_cons_of_neg (by simp [e])] at h
theorem setT_true_ne {m : ByteArray × Int} {o R l : List (ByteArray × Int)} {k : Nat} (hk : k < l.length) (h : o ++ setT m true (l.drop k) = R) (e : l[k].1 ≠ m.1) : (o ++ [(l[k].1, l[k].2)]) ++ setT m true (l.drop (k + 1)) = R := by
  rw [List.drop_eq_getElem_cons hk] at h
  simp only [setT, if_true] at h ⊢
  rw [List.filter_cons_of_pos (by simp [e])] at h
  rw [← h]; simp
theorem le_of_not {x m : ByteArray} (h : Op.bytesLess x.toList m.toList = false) : (Op.bytesLess m.toList x.toList || m.toList == x.toList) = true := by
  by_cases k : Op.bytesLess m.toList x.toList = true
  · simp [k]
  · have e := bl_tri (Bool.not_eq_true _ ▸ k) h
    simp [e]
theorem setT_lt {m : ByteArray × Int} {o R l : List (ByteArray × Int)} {k : Nat} (hk : k < l.length) (h : o ++ setT m false (l.drop k) = R) (e : Op.bytesLess l[k].1.toList m.1.toList = true) : (o ++ [(l[k].1, l[k].2)]) ++ setT m false (l.drop (k + 1)) = R := by
  rw [List.drop_eq_getElem_cons hk] at h
  simp only [setT, setR, e, if_true, Bool.false_eq_true, if_false] at h ⊢
  rw [← h]; simp
theorem setT_put {m : ByteArray × Int} {o R l : List (ByteArray × Int)} {k : Nat} (hk : k < l.length) (h : o ++ setT m false (l.drop k) = R) (e : Op.bytesLess l[k].1.toList m.1.toList = false) : (o ++ [(m.1, m.2)]) ++ setT m true (l.drop k) = R := by
  rw [List.drop_eq_getElem_cons hk] at h ⊢
  simp only [setT, setR, e, if_true, Bool.false_eq_true, if_false] at h ⊢
  rw [← h]; simp
theorem setT_end {m : ByteArray × Int} {o R l : List (ByteArray × Int)} {k : Nat} (hk : ¬ k < l.length) (h : o ++ setT m false (l.drop k) = R) : o ++ [(m.1, m.2)] = R := by
  rw [List.drop_of_length_le (by omega)] at h
  simpa [setT, setR] using h
theorem setT_end' {m : ByteArray × Int} {o R l : List (ByteArray × Int)} {k : Nat} (hk : ¬ k < l.length) (h : o ++ setT m true (l.drop k) = R) : o = R := by
  rw [List.drop_of_length_le (by omega)] at h
  simpa [setT] using h
theorem pre_len {o t R : List (ByteArray × Int)} (h : o ++ t = R) : o.length ≤ R.length := by rw [← h]; simp
/-- A world behind another by draws alone, named. -/
theorem drewN_named {W1 wr : World} {B B' n : Nat} {v : Value} {o : List (ByteArray × Int)} (hb : Below B W1 wr) (hg : Gath wr B' v o) : ∃ v1, wr.drewN n = v1 ∧ Below B W1 v1 ∧ Gath v1 B' v o := ⟨_, rfl, below_drewN hb n, hg⟩

set_option maxHeartbeats 3200000 in
theorem l1Set_any (a : Option Addr) (cap : Nat) (l : List (ByteArray × Int)) (m : ByteArray × Int) (w : World) (hl : l.length ≤ 1048576) (hr : Row w a l) :
    Calls Tryz.prog 123 #[.slice a l.length cap, .agg #[.string m.1, .int .i64 m.2]] w fun e w' => (∃ v, e = .returned v ∧ Gath w' w.heap.size v (setR m l)) ∧ Below w.heap.size w w' := by
  obtain ⟨i0, hi, hz0, hz1, hz2⟩ := info_parts Tryz.infoM
  have hRl := setR_length (m := m) (l := l)
  go_enter Tryz.func123, Tryz.ntmps123
  go_wp2_with fail
  have b0 := box0 w (.string m.1) (.int .i64 m.2) 144
  have b1 := box1 w (.string m.1) (.int .i64 m.2) 144
  have hbx := box_lt w (.cells #[.string m.1, .int .i64 m.2] 144)
  have hba : Below w.heap.size w (w.alloc (.cells #[.string m.1, .int .i64 m.2] 144)) := (Below.refl _ _).alloc (Nat.le_refl _) _
  have hra := hr.below hba
  generalize (w.alloc (.cells #[.string m.1, .int .i64 m.2] 144)) = W1 at *
  go_loopw [5, 6, 7] (fun out put i wr => ∃ k : Nat, k ≤ l.length ∧ i = .int .i64 k ∧ ∃ (o : List (ByteArray × Int)) (p : Bool), Gath wr W1.heap.size out o ∧ put = .bool p ∧ o ++ setT m p (l.drop k) = setR m l ∧ Below W1.heap.size W1 wr) (fun _ _ i _ => l.length - (intOf i).toNat)
  case atStart => exact ⟨0, Nat.zero_le _, rfl, [], false, Gath.none _ _, rfl, by simp [setT], Below.refl _ _⟩
  case round =>
    obtain ⟨k, hk, rfl, o, p, hg, rfl, hinv, hb⟩ := hrel
    have holen := pre_len hinv
    by_cases hlt : k < l.length
    · obtain ⟨b, ob, rfl, hblt, c0, c1⟩ := hra k hlt
      have x0 := cell_on hb hbx b0
      have x1 := cell_on hb hbx b1
      have e0 := cell_on hb hblt c0
      have e1 := cell_on hb hblt c1
      cases p
      · by_cases hA : Op.bytesLess l[k].1.toList m.1.toList = true
        · have hb' : (l[k].1.toList == m.1.toList) = false := toList_bne.2 (asc_ne hA)
          have HI : Hid _ := setT_lt hlt hinv hA
          have hb1' : Op.bytesLess m.1.toList l[k].1.toList = false := by simpa [Asc] using asc_not hA
          have hb2' : (m.1.toList == l[k].1.toList) = false := toList_bne.2 (Ne.symm (asc_ne hA))
          go_wp2_with fail
          go_quiet (fail)
          obtain ⟨u1, hvv, hb8, hg8⟩ := drewN_named (n := nq) hb hg
          rw [hvv]
          clear hvv
          have x0 := cell_on hb8 hbx b0
          have x1 := cell_on hb8 hbx b1
          have e0 := cell_on hb8 hblt c0
          have e1 := cell_on hb8 hblt c1
          have zz := hb8.size
          go_wp2_with fail
          go_quiet (fail)
          obtain ⟨u2, hvv, hb9, hg9⟩ := drewN_named (n := nq) hb8 hg8
          rw [hvv]
          clear hvv
          have x0 := cell_on hb9 hbx b0
          have x1 := cell_on hb9 hbx b1
          have e0 := cell_on hb9 hblt c0
          have e1 := cell_on hb9 hblt c1
          have zz := hb9.size
          go_wp2_with (at_builtin; refine wpList_append_lies _ rfl _ _ 34 rfl W1.heap.size 144 i0 (.agg #[.string .empty, .int .i64 0]) 2 24 Tryz.underlying34 hi hz0 hz1 hz2 rfl (by decide) _ _ _ rfl (hg9.alloc _) ⟨u2.heap.size, 0, none⟩ 1 1 [.string l[k].1, .int .i64 l[k].2] rfl rfl (two_new u2 _ _ _) (by simp [Value.oneCell']) (by decide) (by unfold maxLen; first | omega | (simp only [List.length_append, List.length_cons, List.length_nil]; omega)) (by first | omega | (simp only [List.length_append, List.length_cons, List.length_nil]; omega)) (by simp; omega) _ rfl ?_; intro g' cap' wx hown' hgrow _ _)
          have hb10 := Gath.grown (W := W1) (B := W1.heap.size) (w := u2.alloc (.cells #[.string l[k].1, .int .i64 l[k].2] 144)) (hg9.alloc _) (hb9.alloc hb9.size _) (by simp; omega) hgrow
          have hg10 := Gath.snoc hown'
          exact ⟨⟨k + 1, by omega, by go_num, _, _, (by first | exact hg10 | (have q := hg10; simp only [List.length_append, List.length_cons, List.length_nil, Nat.zero_add] at q; exact q)), rfl, HI.out, hb10⟩, by simp [intOf]; omega⟩
        · have hA : Op.bytesLess l[k].1.toList m.1.toList = false := by simpa using hA
          have hput := setT_put hlt hinv hA
          have hle' := le_of_not hA
          have HPL := pre_len hput
          simp only [List.length_append, List.length_cons, List.length_nil] at HPL
          go_wp2_with fail
          go_quiet (fail)
          obtain ⟨u1, hvv, hb8, hg8⟩ := drewN_named (n := nq) hb hg
          rw [hvv]
          clear hvv
          have x0 := cell_on hb8 hbx b0
          have x1 := cell_on hb8 hbx b1
          have e0 := cell_on hb8 hblt c0
          have e1 := cell_on hb8 hblt c1
          have zz := hb8.size
          go_wp2_with (at_builtin; refine wpList_append_lies _ rfl _ _ 34 rfl W1.heap.size 144 i0 (.agg #[.string .empty, .int .i64 0]) 2 24 Tryz.underlying34 hi hz0 hz1 hz2 rfl (by decide) _ _ _ rfl (hg8.alloc _) ⟨u1.heap.size, 0, none⟩ 1 1 [.string m.1, .int .i64 m.2] rfl rfl (two_new u1 _ _ _) (by simp [Value.oneCell']) (by decide) (by unfold maxLen; first | omega | (simp only [List.length_append, List.length_cons, List.length_nil]; omega)) (by first | omega | (simp only [List.length_append, List.length_cons, List.length_nil]; omega)) (by simp; omega) _ rfl ?_; intro g' cap' wx hown' hgrow _ _)
          have hb7 := Gath.grown (W := W1) (B := W1.heap.size) (w := u1.alloc (.cells #[.string m.1, .int .i64 m.2] 144)) (hg8.alloc _) (hb8.alloc hb8.size _) (by simp; omega) hgrow
          have hg7 := Gath.snoc hown'
          clear x0 x1 e0 e1
          have x0 := cell_on hb7 hbx b0
          have x1 := cell_on hb7 hbx b1
          have e0 := cell_on hb7 hblt c0
          have e1 := cell_on hb7 hblt c1
          by_cases he : l[k].1 = m.1
          · have hb' : (l[k].1.toList == m.1.toList) = true := toList_beq.2 he
            have HI : Hid _ := setT_true_eq hlt hput he
            clear he
            go_wp2_with fail
            go_quiet (fail)
            obtain ⟨u2, hvv, hb9, hg9⟩ := drewN_named (n := nq) hb7 hg7
            rw [hvv]
            clear hvv
            have x0 := cell_on hb9 hbx b0
            have x1 := cell_on hb9 hbx b1
            have e0 := cell_on hb9 hblt c0
            have e1 := cell_on hb9 hblt c1
            have zz := hb9.size
            go_wp2_with fail
            exact ⟨⟨k + 1, by omega, by go_num, _, _, hg9, rfl, HI.out, hb9⟩, by simp [intOf]; omega⟩
          · have hb' : (l[k].1.toList == m.1.toList) = false := toList_bne.2 he
            have HI : Hid _ := setT_true_ne hlt hput he
            clear he
            go_wp2_with fail
            go_quiet (fail)
            obtain ⟨u2, hvv, hb9, hg9⟩ := drewN_named (n := nq) hb7 hg7
            rw [hvv]
            clear hvv
            have x0 := cell_on hb9 hbx b0
            have x1 := cell_on hb9 hbx b1
            have e0 := cell_on hb9 hblt c0
            have e1 := cell_on hb9 hblt c1
            have zz := hb9.size
            go_wp2_with (at_builtin; refine wpList_append_lies _ rfl _ _ 34 rfl W1.heap.size 144 i0 (.agg #[.string .empty, .int .i64 0]) 2 24 Tryz.underlying34 hi hz0 hz1 hz2 rfl (by decide) _ _ _ rfl (hg9.alloc _) ⟨u2.heap.size, 0, none⟩ 1 1 [.string l[k].1, .int .i64 l[k].2] rfl rfl (two_new u2 _ _ _) (by simp [Value.oneCell']) (by decide) (by unfold maxLen; first | omega | (simp only [List.length_append, List.length_cons, List.length_nil]; omega)) (by first | omega | (simp only [List.length_append, List.length_cons, List.length_nil]; omega)) (by simp; omega) _ rfl ?_; intro g' cap' wx hown' hgrow _ _)
            have hb10 := Gath.grown (W := W1) (B := W1.heap.size) (w := u2.alloc (.cells #[.string l[k].1, .int .i64 l[k].2] 144)) (hg9.alloc _) (hb9.alloc hb9.size _) (by simp; omega) hgrow
            have hg10 := Gath.snoc hown'
            exact ⟨⟨k + 1, by omega, by go_num, _, _, (by first | exact hg10 | (have q := hg10; simp only [List.length_append, List.length_cons, List.length_nil, Nat.zero_add] at q; exact q)), rfl, HI.out, hb10⟩, by simp [intOf]; omega⟩
      · go_wp2_with fail
        go_quiet (fail)
        obtain ⟨u1, hvv, hb8, hg8⟩ := drewN_named (n := nq) hb hg
        rw [hvv]
        clear hvv
        have x0 := cell_on hb8 hbx b0
        have x1 := cell_on hb8 hbx b1
        have e0 := cell_on hb8 hblt c0
        have e1 := cell_on hb8 hblt c1
        have zz := hb8.size
        by_cases he : l[k].1 = m.1
        · have hb' : (l[k].1.toList == m.1.toList) = true := toList_beq.2 he
          have HI : Hid _ := setT_true_eq hlt hinv he
          clear he
          go_wp2_with fail
          go_quiet (fail)
          obtain ⟨u2, hvv, hb9, hg9⟩ := drewN_named (n := nq) hb8 hg8
          rw [hvv]
          clear hvv
          have x0 := cell_on hb9 hbx b0
          have x1 := cell_on hb9 hbx b1
          have e0 := cell_on hb9 hblt c0
          have e1 := cell_on hb9 hblt c1
          have zz := hb9.size
          go_wp2_with fail
          exact ⟨⟨k + 1, by omega, by go_num, _, _, hg9, rfl, HI.out, hb9⟩, by simp [intOf]; omega⟩
        · have hb' : (l[k].1.toList == m.1.toList) = false := toList_bne.2 he
          have HI : Hid _ := setT_true_ne hlt hinv he
          clear he
          go_wp2_with fail
          go_quiet (fail)
          obtain ⟨u2, hvv, hb9, hg9⟩ := drewN_named (n := nq) hb8 hg8
          rw [hvv]
          clear hvv
          have x0 := cell_on hb9 hbx b0
          have x1 := cell_on hb9 hbx b1
          have e0 := cell_on hb9 hblt c0
          have e1 := cell_on hb9 hblt c1
          have zz := hb9.size
          go_wp2_with (at_builtin; refine wpList_append_lies _ rfl _ _ 34 rfl W1.heap.size 144 i0 (.agg #[.string .empty, .int .i64 0]) 2 24 Tryz.underlying34 hi hz0 hz1 hz2 rfl (by decide) _ _ _ rfl (hg9.alloc _) ⟨u2.heap.size, 0, none⟩ 1 1 [.string l[k].1, .int .i64 l[k].2] rfl rfl (two_new u2 _ _ _) (by simp [Value.oneCell']) (by decide) (by unfold maxLen; first | omega | (simp only [List.length_append, List.length_cons, List.length_nil]; omega)) (by first | omega | (simp only [List.length_append, List.length_cons, List.length_nil]; omega)) (by simp; omega) _ rfl ?_; intro g' cap' wx hown' hgrow _ _)
          have hb10 := Gath.grown (W := W1) (B := W1.heap.size) (w := u2.alloc (.cells #[.string l[k].1, .int .i64 l[k].2] 144)) (hg9.alloc _) (hb9.alloc hb9.size _) (by simp; omega) hgrow
          have hg10 := Gath.snoc hown'
          exact ⟨⟨k + 1, by omega, by go_num, _, _, (by first | exact hg10 | (have q := hg10; simp only [List.length_append, List.length_cons, List.length_nil, Nat.zero_add] at q; exact q)), rfl, HI.out, hb10⟩, by simp [intOf]; omega⟩
    · cases p
      · have HE : Hid _ := setT_end hlt hinv
        have x0 := cell_on hb hbx b0
        have x1 := cell_on hb hbx b1
        have zz := hb.size
        go_wp2_with (at_builtin; refine wpList_append_lies _ rfl _ _ 34 rfl W1.heap.size 144 i0 (.agg #[.string .empty, .int .i64 0]) 2 24 Tryz.underlying34 hi hz0 hz1 hz2 rfl (by decide) _ _ _ rfl (hg.alloc _) ⟨wr.heap.size, 0, none⟩ 1 1 [.string m.1, .int .i64 m.2] rfl rfl (two_new wr _ _ _) (by simp [Value.oneCell']) (by decide) (by unfold maxLen; first | omega | (simp only [List.length_append, List.length_cons, List.length_nil]; omega)) (by first | omega | (simp only [List.length_append, List.length_cons, List.length_nil]; omega)) (by simp; omega) _ rfl ?_; intro g' cap' wx hown' hgrow _ _)
        have hb10 := Gath.grown (W := W1) (B := W1.heap.size) (w := wr.alloc (.cells #[.string m.1, .int .i64 m.2] 144)) (hg.alloc _) (hb.alloc hb.size _) (by simp; omega) hgrow
        have hg10 := Gath.snoc hown'
        go_ret
        exact ⟨⟨_, rfl, by rw [← HE.out]; exact hg10.lower (Nat.le_of_lt hbx)⟩, hba.trans (hb10.mono hba.size)⟩
      · have HE : Hid _ := setT_end' hlt hinv
        go_wp2_with fail
        go_ret
        exact ⟨⟨_, rfl, by rw [← HE.out]; exact hg.lower (Nat.le_of_lt hbx)⟩, hba.trans (hb.mono hba.size)⟩

end Go.Proofs.YtpfhegengmlkmacGreatDoor
/- Walk: spec.StampJoin. -/
namespace Go.Proofs.YtpfhegengmlkmacGreatDoor
open Go.RowKit Go.BigFrame

set_option maxHeartbeats 1600000 in
theorem specJoin_any (aa ab : Option Addr) (ca cb : Nat) (la lb : List (ByteArray × Int)) (w : World) (hla : la.length ≤ maxLen) (hlb : lb.length ≤ maxLen) (ha : Row w aa la) (hb : Row w ab lb)
    (hsa : ∀ j, (h : j < la.length) → la[j].1.size ≤ maxLen) (hsb : ∀ j, (h : j < lb.length) → lb[j].1.size ≤ maxLen) :
    Calls Tryz.prog 85 #[.slice aa la.length ca, .slice ab lb.length cb] w fun e w' => (∃ v m ok, e = .returned (.tuple #[v, .bool ok]) ∧ Gath w' w.heap.size v m ∧ IsJ la lb m ok) ∧ Below w.heap.size w w' := by
  go_enter Tryz.func85, Tryz.ntmps85
  go_wp2_with fail
  refine (specOk_b aa ca la _ hla ha hsa).mono ?_
  rintro e w1 ⟨⟨r, rfl, hr1⟩, hb1⟩
  cases r
  · have hn : ¬ StampP la := fun h => by simpa using hr1.2 h
    clear hr1
    go_wp2_with fail
    exact bodyPost_ret (v := .tuple #[.slice none 0 0, .bool false]) (by simp [results, Tryz.results85, go_sem]) rfl ⟨⟨_, [], false, rfl, Gath.none _ _, .inl ⟨fun h => hn h.1, rfl, rfl⟩⟩, hb1⟩
  have hya : StampP la := hr1.1 rfl
  clear hr1
  go_wp2_with fail
  refine (specOk_b ab cb lb _ hlb (hb.below hb1) hsb).mono ?_
  rintro e w2 ⟨⟨r, rfl, hr2⟩, hb2⟩
  have hb12 : Below w.heap.size w w2 := hb1.trans (hb2.mono hb1.size)
  cases r
  · have hn : ¬ StampP lb := fun h => by simpa using hr2.2 h
    clear hr2
    go_wp2_with fail
    exact bodyPost_ret (v := .tuple #[.slice none 0 0, .bool false]) (by simp [results, Tryz.results85, go_sem]) rfl ⟨⟨_, [], false, rfl, Gath.none _ _, .inl ⟨fun h => hn h.2, rfl, rfl⟩⟩, hb12⟩
  have hyb : StampP lb := hr2.1 rfl
  clear hr2
  have sa := stamp_sorted hya
  have sb := stamp_sorted hyb
  have la12 := hya.1
  have lb12 := hyb.1
  go_wp2_with fail
  go_loopw [6, 7] (fun out i wr => ∃ k : Nat, k ≤ la.length ∧ i = .int .i64 k ∧ Gath wr w.heap.size out (la.take k) ∧ Below w.heap.size w wr) (fun _ i _ => la.length - (intOf i).toNat)
  case atStart => exact ⟨0, Nat.zero_le _, rfl, Gath.none _ _, hb12⟩
  case round =>
    obtain ⟨k, hk, rfl, hg, hbl⟩ := hrel
    by_cases hlt : k < la.length
    · obtain ⟨b, ob, rfl, hblt, c0, c1⟩ := ha k hlt
      have e0 := cell_on hbl hblt c0
      have e1 := cell_on hbl hblt c1
      obtain ⟨ag, capg, rfl, hrow⟩ := hg.shape
      have hk1 : (la.take k).length ≤ 1048576 := by rw [List.length_take]; omega
      have HS := setR_snoc (take_low sa hlt)
      rw [← List.take_succ_eq_append_getElem hlt] at HS
      have HS' : Hid _ := HS
      clear HS
      generalize la.take k = o at *
      go_wp2_with (go_at_call 123; refine (l1Set_any _ _ o la[k] _ hk1 hrow).mono ?_; rintro e w3 ⟨⟨v, rfl, hg3⟩, hb3⟩)
      exact ⟨⟨k + 1, by omega, by go_num, by rw [← HS'.out]; exact hg3.lower hbl.size, hbl.trans (hb3.mono hbl.size)⟩, by simp [intOf]; omega⟩
    · have hg' : Gath wr w.heap.size u6 la := by rw [List.take_of_length_le (by omega)] at hg; exact hg
      clear hg
      go_wp2_with fail
      go_loopw [6, 8] (fun out i wr => ∃ (k : Nat) (o : List (ByteArray × Int)), k ≤ lb.length ∧ i = .int .i64 k ∧ Gath wr w.heap.size out o ∧ o.length ≤ la.length + k ∧ JoinOf la (lb.take k) o ∧ Below w.heap.size w wr) (fun _ i _ => lb.length - (intOf i).toNat)
      case atStart => exact ⟨0, la, Nat.zero_le _, rfl, hg', by omega, joinOf_start sa, hbl⟩
      case round =>
        obtain ⟨k, o, hk, rfl, hg, hol, hj, hbl⟩ := hrel
        by_cases hlt : k < lb.length
        · obtain ⟨b, ob, rfl, hblt, c0, c1⟩ := hb k hlt
          have e0 := cell_on hbl hblt c0
          have e1 := cell_on hbl hblt c1
          have g1 : b < wr.heap.size := Nat.lt_of_lt_of_le hblt hbl.size
          obtain ⟨ag, capg, rfl, hrow⟩ := hg.shape
          have HRB : Hid (∀ n : Lat wr, Row n.w ag o) := fun n => hrow.below n.h
          by_cases hc : getM o lb[k].1 < lb[k].2
          · have HJ : Hid _ := joinOf_set sb hlt hj hc
            have HL := setR_length (m := lb[k]) (l := o)
            go_wp2_with fail
            refine wp_region_lat (by kernel_rfl) (by kernel_rfl) ?_
            have hne := Lat.some wr
            have q0 : ∀ n : Lat wr, n.w.cell? ⟨b, ob + k * 2, none⟩ = some (.string lb[k].1) := fun n => n.cell g1 e0
            have q1 : ∀ n : Lat wr, n.w.cell? ⟨b, ob + k * 2 + 1, none⟩ = some (.int .i64 lb[k].2) := fun n => n.cell g1 e1
            repeat (go_big_quiet_step ((go_at_call 124; exact Calls.lat_same (l1Get_any _ _ o _ _ (by unfold maxLen; omega) (HRB.out _)))))
            refine wpQuiet_nil ?_
            rintro _ ⟨nq, rfl⟩
            have e0 := q0 nq
            have e1 := q1 nq
            have B3 := hbl.trans (nq.h.mono hbl.size)
            go_wp2_with (go_at_call 123; refine (l1Set_any _ _ o lb[k] _ (by omega) (HRB.out nq)).mono ?_; rintro e w3 ⟨⟨v, rfl, hg3⟩, hb3⟩)
            exact ⟨⟨k + 1, _, by omega, by go_num, hg3.lower B3.size, by omega, HJ.out, B3.trans (hb3.mono B3.size)⟩, by simp [intOf]; omega⟩
          · have HJ : Hid _ := joinOf_keep sb hlt hj hc
            go_wp2_with fail
            refine wp_region_lat (by kernel_rfl) (by kernel_rfl) ?_
            have hne := Lat.some wr
            have q0 : ∀ n : Lat wr, n.w.cell? ⟨b, ob + k * 2, none⟩ = some (.string lb[k].1) := fun n => n.cell g1 e0
            have q1 : ∀ n : Lat wr, n.w.cell? ⟨b, ob + k * 2 + 1, none⟩ = some (.int .i64 lb[k].2) := fun n => n.cell g1 e1
            repeat (go_big_quiet_step ((go_at_call 124; exact Calls.lat_same (l1Get_any _ _ o _ _ (by unfold maxLen; omega) (HRB.out _)))))
            refine wpQuiet_nil ?_
            rintro _ ⟨nq, rfl⟩
            go_wp2_with fail
            exact ⟨⟨k + 1, o, by omega, by go_num, hg.keep nq.h, by omega, HJ.out, hbl.trans (nq.h.mono hbl.size)⟩, by simp [intOf]; omega⟩
        · have hj' : JoinOf la lb o := by rw [List.take_of_length_le (by omega)] at hj; exact hj
          have HJ : Hid (JoinOf la lb o) := hj'
          clear hj hj'
          obtain ⟨ag, capg, rfl, hrow⟩ := hg.shape
          by_cases h12 : 12 < o.length
          · go_wp2_with fail
            exact bodyPost_ret (v := .tuple #[.slice none 0 0, .bool false]) (by simp [results, Tryz.results85, go_sem]) rfl ⟨⟨_, [], false, rfl, Gath.none _ _, .inr ⟨hya, hyb, o, HJ.out, .inr ⟨h12, rfl, rfl⟩⟩⟩, hbl⟩
          · go_wp2_with fail
            exact bodyPost_ret (v := .tuple #[.slice ag o.length capg, .bool true]) (by simp [results, Tryz.results85, go_sem]) rfl ⟨⟨_, o, true, rfl, hg, .inr ⟨hya, hyb, o, HJ.out, .inl ⟨by omega, rfl, rfl⟩⟩⟩, hbl⟩

end Go.Proofs.YtpfhegengmlkmacGreatDoor
/- Walk: spec.ChoiceJoin. -/
namespace Go.Proofs.YtpfhegengmlkmacGreatDoor
open Go.RowKit Go.BigFrame
set_option maxRecDepth 100000

theorem gath_row {w : World} {B : Nat} {v : Value} {l : List (ByteArray × Int)} (h : Gath w B v l) : ∃ a c, v = .slice a l.length c ∧ l.length ≤ c ∧ Row w a l := by
  obtain ⟨a, c, rfl, hr⟩ := h.shape
  refine ⟨a, c, rfl, ?_, hr⟩
  rcases h.2 with ⟨e, h0⟩ | ⟨g, cap, cur, e, _, _, hn, _⟩
  · omega
  · cases e
    exact hn

set_option maxHeartbeats 1600000 in
theorem specCJ_any (a a' : Option Addr) (cap cap' : Nat) (ws : List (List ItemL)) (ps : List Int) (w : World) (hf : FitW ws) (hr : RowW w a ws) (hp : ps.length ≤ maxLen) (hr' : RowZ w a' ps) :
    Calls Tryz.prog 45 #[.slice a ws.length cap, .slice a' ps.length cap'] w fun e w' => (∃ v m ok, e = .returned (.tuple #[v, .bool ok]) ∧ Gath w' w.heap.size v m ∧ IsCJ ws ps m ok) ∧ Below w.heap.size w w' := by
  go_enter Tryz.func45, Tryz.ntmps45
  go_wp2_with fail
  refine (specChoiceAgrees_any a cap ws a' cap' ps _ hf hr hp hr').mono ?_
  rintro e w1 ⟨⟨r, rfl, hr1⟩, b1⟩
  have HR : Hid (r = true ↔ ChP ws ps) := hr1
  clear hr1
  cases r with
  | false =>
    have HN : Hid (¬ ChP ws ps) := fun h => by have := HR.out.2 h; simp at this
    go_wp2_with fail
    exact bodyPost_ret (v := .tuple #[.slice none 0 0, .bool false]) (by simp [results, Tryz.results45, go_sem]) rfl ⟨⟨_, [], false, rfl, Gath.none _ _, .inr ⟨rfl, rfl, .inl HN.out⟩⟩, b1⟩
  | true =>
    have HC : Hid (ChP ws ps) := HR.out.1 rfl
    have hl6 := HC.out.1.2.1
    have hlp := HC.out.2.1
    have hpl : ps.length ≤ 6 := by omega
    clear HR hlp
    go_wp2_with fail
    go_loopw [6, 7] (fun out i wr => ∃ (k : Nat) (m : List (ByteArray × Int)), k ≤ ps.length ∧ i = .int .i64 k ∧ Gath wr w.heap.size out m ∧ Hid (JoinsTo ws ps k m) ∧ Below w.heap.size w wr) (fun _ i _ => ps.length - (intOf i).toNat)
    case atStart => exact ⟨0, [], Nat.zero_le _, rfl, Gath.none _ _, rfl, b1⟩
    case round =>
      obtain ⟨k, m, hk, rfl, hg, HJ, hbl⟩ := hrel
      by_cases hlt : k < ps.length
      · obtain ⟨hkw, q, hqe, hq, hpk⟩ := in_nat HC.out.2.2.1 hlt
        obtain ⟨b1, o1, rfl, g1, s1, t1, f1, _, r1⟩ := hr.below hbl k hkw
        obtain ⟨b2, o2, rfl, g2, f2⟩ := hr'.below hbl k hlt
        rw [hqe] at f2
        obtain ⟨b3, o3, rfl, g3, _, vv, f3, ⟨sa, sc, rfl, hsc, rm⟩⟩ := r1 q hq
        have hfm := (hf.2 k hkw).2 q hq
        have k0 : (0 : Int) ≤ (k : Int) := by omega
        have k1 : (k : Int) < (ps.length : Int) := by omega
        have k2 : (k : Int) < (ws.length : Int) := by omega
        have q0 : (0 : Int) ≤ (q : Int) := by omega
        have q1 : (q : Int) < (ws[k].length : Int) := by omega
        have HPK : Hid (pkM ws ps k = (ws[k][q]).2) := hpk
        have hst := HJ.out.stamp
        have hm12 := hst.1
        have HMS : Hid (∀ j, (h : j < m.length) → m[j].1.size ≤ maxLen) := fun j hj => by have := (hst.2.1 j hj).1.2.1; unfold maxLen; omega
        obtain ⟨oa, oc, rfl, _, horow⟩ := gath_row hg
        clear hqe hpk hst
        have SW : (wr.drew).cell? ⟨b1, o1 + k, none⟩ = some (.slice (some ⟨b3, o3, none⟩) ws[k].length t1) ∧ (wr.drew).cell? ⟨b2, o2 + k, none⟩ = some (.int .i64 (q : Int)) ∧ (wr.drew).cell? ⟨b3, o3 + q * 2 + 1, none⟩ = some (.slice sa (ws[k][q]).2.length sc) := ⟨f1, f2, f3⟩
        go_wp2_with fail
        refine wp_region_held_drew (S := fun u => u.cell? ⟨b1, o1 + k, none⟩ = some (.slice (some ⟨b3, o3, none⟩) ws[k].length t1) ∧ u.cell? ⟨b2, o2 + k, none⟩ = some (.int .i64 (q : Int)) ∧ u.cell? ⟨b3, o3 + q * 2 + 1, none⟩ = some (.slice sa (ws[k][q]).2.length sc)) (by kernel_rfl) SW (fun _ => ?_)
        refine wpAnyH_take (i := 0) (v := .slice oa m.length oc) rfl (by kernel_rfl) (by kernel_rfl) (by kernel_rfl) (fun _ _ _ h => h) (Or.inl ⟨by rfl, ?_⟩) SW ?_
        · rintro u ⟨q1, q2, q3⟩
          go_simp
        simp only [Act.put, List.setIfInBounds_toArray]
        refine wpAnyH_take (i := 1) (v := .slice (some ⟨b1, o1, none⟩) ws.length cap) rfl (by kernel_rfl) (by kernel_rfl) (by kernel_rfl) (fun _ _ _ h => h) (Or.inl ⟨by rfl, ?_⟩) SW ?_
        · rintro u ⟨q1, q2, q3⟩
          go_simp
        simp only [Act.put]
        refine wpAnyH_take (i := 2) (v := .int .i64 k) rfl (by kernel_rfl) (by kernel_rfl) (by kernel_rfl) (fun _ _ _ h => h) (Or.inl ⟨by rfl, ?_⟩) SW ?_
        · rintro u ⟨q1, q2, q3⟩
          go_simp
        simp only [Act.put]
        refine wpAnyH_take (i := 3) (v := .pointer (some ⟨b1, o1 + k, none⟩)) rfl (by kernel_rfl) (by kernel_rfl) (by kernel_rfl) (fun _ _ _ h => h) (Or.inl ⟨by rfl, ?_⟩) SW ?_
        · rintro u ⟨q1, q2, q3⟩
          go_simp
        simp only [Act.put]
        refine wpAnyH_take (i := 4) (v := .slice (some ⟨b3, o3, none⟩) ws[k].length t1) rfl (by kernel_rfl) (by kernel_rfl) (by kernel_rfl) (fun _ _ _ h => h) (Or.inl ⟨by rfl, ?_⟩) SW ?_
        · rintro u ⟨q1, q2, q3⟩
          go_simp
        simp only [Act.put]
        refine wpAnyH_take (i := 5) (v := .slice (some ⟨b2, o2, none⟩) ps.length cap') rfl (by kernel_rfl) (by kernel_rfl) (by kernel_rfl) (fun _ _ _ h => h) (Or.inl ⟨by rfl, ?_⟩) SW ?_
        · rintro u ⟨q1, q2, q3⟩
          go_simp
        simp only [Act.put]
        refine wpAnyH_take (i := 6) (v := .int .i64 k) rfl (by kernel_rfl) (by kernel_rfl) (by kernel_rfl) (fun _ _ _ h => h) (Or.inl ⟨by rfl, ?_⟩) SW ?_
        · rintro u ⟨q1, q2, q3⟩
          go_simp
        simp only [Act.put]
        refine wpAnyH_take (i := 7) (v := .pointer (some ⟨b2, o2 + k, none⟩)) rfl (by kernel_rfl) (by kernel_rfl) (by kernel_rfl) (fun _ _ _ h => h) (Or.inl ⟨by rfl, ?_⟩) SW ?_
        · rintro u ⟨q1, q2, q3⟩
          go_simp
        simp only [Act.put]
        refine wpAnyH_take (i := 8) (v := .int .i64 q) rfl (by kernel_rfl) (by kernel_rfl) (by kernel_rfl) (fun _ _ _ h => h) (Or.inl ⟨by rfl, ?_⟩) SW ?_
        · rintro u ⟨q1, q2, q3⟩
          go_simp
        simp only [Act.put]
        refine wpAnyH_take (i := 9) (v := .pointer (some ⟨b3, o3 + q * 2, none⟩)) rfl (by kernel_rfl) (by kernel_rfl) (by kernel_rfl) (fun _ _ _ h => h) (Or.inl ⟨by rfl, ?_⟩) SW ?_
        · rintro u ⟨q1, q2, q3⟩
          go_simp
        simp only [Act.put]
        refine wpAnyH_take (i := 10) (v := .pointer (some ⟨b3, o3 + q * 2 + 1, none⟩)) rfl (by kernel_rfl) (by kernel_rfl) (by kernel_rfl) (fun _ _ _ h => h) (Or.inl ⟨by rfl, ?_⟩) SW ?_
        · rintro u ⟨q1, q2, q3⟩
          go_simp
        simp only [Act.put]
        refine wpAnyH_take (i := 11) (v := .slice sa (ws[k][q]).2.length sc) rfl (by kernel_rfl) (by kernel_rfl) (by kernel_rfl) (fun _ _ _ h => h) (Or.inl ⟨by rfl, ?_⟩) SW ?_
        · rintro u ⟨q1, q2, q3⟩
          go_simp
        simp only [Act.put]
        refine wpAnyH_ready (rs := [12]) (by kernel_rfl) (by simp) ?_
        refine AllReadyH.cons rfl (fun K hK => ?_) AllReadyH.nil
        rw [if_pos (by rfl)]
        go_simp
        have hbd : Below wr.heap.size wr wr.drew := (Below.refl _ _).drew
        refine (specJoin_any oa sa oc sc m (ws[k][q]).2 _ (by unfold maxLen; omega) hfm.1 (horow.below hbd) (rm.below hbd) HMS.out hfm.2).mono ?_
        rintro e w2 ⟨⟨v2, m2, ok2, rfl, hg2, hj2⟩, b2'⟩
        obtain ⟨va, vc, rfl, _, _⟩ := gath_row hg2
        rw [← HPK.out] at hj2
        have HJ2 : Hid (IsJ m (pkM ws ps k) m2 ok2) := hj2
        clear hj2
        have b2d : Below wr.heap.size wr w2 := hbd.trans (b2'.mono hbd.size)
        have B2 : Below w.heap.size w w2 := hbl.trans (b2d.mono hbl.size)
        have S2 : w2.cell? ⟨b1, o1 + k, none⟩ = some (.slice (some ⟨b3, o3, none⟩) ws[k].length t1) ∧ w2.cell? ⟨b2, o2 + k, none⟩ = some (.int .i64 (q : Int)) ∧ w2.cell? ⟨b3, o3 + q * 2 + 1, none⟩ = some (.slice sa (ws[k][q]).2.length sc) := ⟨cell_on b2d g1 f1, cell_on b2d g2 f2, cell_on b2d g3 f3⟩
        refine hK.out _ _ S2 (fun _ => ?_)
        clear hK K SW
        refine wpAnyH_take (i := 13) (v := .tuple #[.slice va m2.length vc, .bool ok2]) rfl (by kernel_rfl) (by kernel_rfl) (by kernel_rfl) (fun _ _ _ h => h) (Or.inl ⟨by rfl, ?_⟩) S2 ?_
        · rintro u ⟨q1, q2, q3⟩
          go_simp
        simp only [Act.put, List.setIfInBounds_toArray]
        refine wpAnyH_take (i := 14) (v := .slice va m2.length vc) rfl (by kernel_rfl) (by kernel_rfl) (by kernel_rfl) (fun _ _ _ h => h) (Or.inl ⟨by rfl, ?_⟩) S2 ?_
        · rintro u ⟨q1, q2, q3⟩
          go_simp
        simp only [Act.put]
        refine wpAnyH_take (i := 15) (v := .bool ok2) rfl (by kernel_rfl) (by kernel_rfl) (by kernel_rfl) (fun _ _ _ h => h) (Or.inl ⟨by rfl, ?_⟩) S2 ?_
        · rintro u ⟨q1, q2, q3⟩
          go_simp
        simp only [Act.put]
        refine wpAnyH_ready (rs := [16]) (by kernel_rfl) (by simp) ?_
        refine AllReadyH.cons rfl (fun K hK => ?_) AllReadyH.nil
        rw [if_pos (by rfl)]
        go_simp
        refine hK.out _ _ S2 (fun _ => ?_)
        clear hK K
        refine wpAnyH_ready (rs := [17]) (by kernel_rfl) (by simp) ?_
        refine AllReadyH.cons rfl (fun K hK => ?_) AllReadyH.nil
        rw [if_pos (by rfl)]
        go_simp
        refine hK.out _ _ S2 (fun _ => ?_)
        clear hK K
        refine wpAnyH_done (by kernel_rfl) ?_ _
        clear S2
        cases ok2 with
        | false =>
          have HF : Hid (IsCJ ws ps [] false) := .inr ⟨rfl, rfl, .inr ⟨k, m, m2, hlt, HJ.out, HJ2.out⟩⟩
          go_wp2_with fail
          exact bodyPost_ret (v := .tuple #[.slice none 0 0, .bool false]) (by simp [results, Tryz.results45, go_sem]) rfl ⟨⟨_, [], false, rfl, Gath.none _ _, HF.out⟩, B2⟩
        | true =>
          have HST : Hid (JoinsTo ws ps (k + 1) m2) := ⟨m, HJ.out, HJ2.out⟩
          go_wp2_with fail
          exact ⟨⟨k + 1, m2, by omega, by go_num, hg2.lower hbl.size, HST, B2⟩, by simp [intOf]; omega⟩
      · have HF : Hid (IsCJ ws ps m true) := .inl ⟨rfl, HC.out, by
          have e : k = ps.length := by omega
          rw [← e]; exact HJ.out⟩
        go_wp2_with fail
        exact bodyPost_ret (by simp [results, Tryz.results45, go_sem]) rfl ⟨⟨_, m, true, rfl, hg, HF.out⟩, hbl⟩

end Go.Proofs.YtpfhegengmlkmacGreatDoor
/- append of one mark onto marks that the call gathers: which blocks turn. -/
namespace Go.Proofs.YtpfhegengmlkmacGreatDoor
open Go.RowKit Go.BigFrame

/-- Behind an append: new blocks alone, or the row itself, which has room for two marks. -/
def Appended (base : Nat) (w w' : World) : Prop := w.grownBy w' none ∨ ∃ g, base ≤ g ∧ (∃ u, w.cell? ⟨g, 3, none⟩ = some u) ∧ w.grownBy w' (some g)

theorem run_append_mark (ty : TypeId) (base : Nat) (v : Value) (l : List (ByteArray × Int)) (w : World) (hg : Gath w base v l) (hv : l = [] → v = .slice none 0 0) (ad : Addr) (m : ByteArray × Int)
    (c0 : w.cell? ad = some (.string m.1)) (c1 : w.cell? (ad.add 1) = some (.int .i64 m.2)) (hl : l.length ≤ 1048576) (hbase : base ≤ w.heap.size) :
    ∃ v' w', (Builtin.append_ #[34, 34] ty #[v, .slice (some ad) 1 1]).run Tryz.prog w = .ok v' w' ∧ Gath w' base v' (l ++ [m]) ∧ Appended base w w' := by
  obtain ⟨i0, hi, hz0, hz1, hz2⟩ := info_parts Tryz.infoM
  have hnews : ∀ j u, ([.string m.1, .int .i64 m.2] : List Value)[j]? = some u → w.cell? (ad.add j) = some u := by
    intro j u hj
    match j, hj with
    | 0, hj => simp at hj; subst hj; rw [show ad.add 0 = ad from by cases ad with | mk b o s => cases s <;> simp [Addr.add]]; exact c0
    | 1, hj => simp at hj; subst hj; exact c1
  have h1 : ∀ u ∈ ([.string m.1, .int .i64 m.2] : List Value), u.oneCell' = true := by simp [Value.oneCell']
  have hmc : mcells (l ++ [m]) = mcells l ++ [.string m.1, .int .i64 m.2] := by rw [mcells_append]; rfl
  by_cases hnil : l = []
  · obtain rfl := hv hnil
    obtain ⟨g, cap, w', hr, h2, h3, _, _⟩ := run_append_lies (P := Tryz.prog) w 34 ty base 144 i0 (.agg #[.string .empty, .int .i64 0]) 2 24 Tryz.underlying34 hi hz0 hz1 hz2 rfl (by decide) _ _ _ hg ad 1 1 [.string m.1, .int .i64 m.2] rfl hnews h1 (by decide) (by unfold maxLen; omega) (by omega) hbase _ rfl
    refine ⟨_, w', hr, ?_, .inl h3⟩
    unfold Gath
    rw [hmc, List.length_append]
    exact h2
  · have hpos : 0 < l.length := List.length_pos_iff.2 hnil
    obtain ⟨hlen, h | ⟨g, cap, cur, rfl, hbg, hh, hnc, hcm, hcs, htk⟩⟩ := id hg
    · exact absurd (List.length_eq_zero_iff.1 h.2) hnil
    by_cases hroom : l.length + 1 ≤ cap
    · obtain ⟨w', hr, h2, h3⟩ := run_append_fits (P := Tryz.prog) w base 34 ty 144 i0 2 Tryz.underlying34 hi hz1 g l.length cap (mcells l) hg ad 1 1 [.string m.1, .int .i64 m.2] rfl hnews h1 hroom
      refine ⟨_, w', hr, ?_, .inr ⟨g, hbg, ?_, h3⟩⟩
      · unfold Gath
        rw [hmc, List.length_append]
        exact h2
      · have h3 : 3 < cur.size := by omega
        refine ⟨cur[3], ?_⟩
        unfold World.cell?
        simp [hh, h3]
    · have holds : ∀ j u, (mcells l)[j]? = some u → w.cell? ((⟨g, 0, none⟩ : Addr).add j) = some u := by
        intro j u hj
        have hjl : j < (mcells l).length := (List.getElem?_eq_some_iff.1 hj).1
        rw [← htk, List.getElem?_take_of_lt (by rw [mcells_length] at hjl; exact hjl)] at hj
        have e : (⟨g, 0, none⟩ : Addr).add j = ⟨g, j, none⟩ := by unfold Addr.add; by_cases h : j = 0 <;> simp [h]
        rw [e]
        unfold World.cell?
        simp only [hh]
        simpa using hj
      obtain ⟨v', w', hr, h2, h3⟩ := run_append_arg_grows (P := Tryz.prog) w 34 ty 144 i0 (.agg #[.string .empty, .int .i64 0]) 2 24 Tryz.underlying34 hi hz0 hz1 hz2 rfl (by decide) ⟨g, 0, none⟩ l.length cap (mcells l) (mcells_length l) holds ad 1 1 [.string m.1, .int .i64 m.2] rfl hnews (by omega) (by unfold maxLen; omega) (by omega)
      refine ⟨v', w', hr, ?_, .inl h3⟩
      refine Gath.lower (B := w.heap.size) ?_ hbase
      unfold Gath
      rw [hmc, List.length_append]
      exact h2

theorem wp_append_mark {o : Oper} {a : Act} {w : World} {K : Act → World → Prop} {Q : Exit → Act → World → Prop} (s x : Operand)
    (ho : o.op = .call { callee := .builtin .append, args := #[s, x], argTypes := #[34, 34] }) (base : Nat) (v : Value) (l : List (ByteArray × Int)) (hs : a.eval s = v) (hg : Gath w base v l) (hv : l = [] → v = .slice none 0 0) (ad : Addr) (m : ByteArray × Int)
    (hx : a.eval x = .slice (some ad) 1 1) (c0 : w.cell? ad = some (.string m.1)) (c1 : w.cell? (ad.add 1) = some (.int .i64 m.2)) (hl : l.length ≤ 1048576) (hbase : base ≤ w.heap.size)
    (h : ∀ v' w', Gath w' base v' (l ++ [m]) → Appended base w w' → K (a.put o.dst v') w') : o.wp Tryz.prog a w K Q := by
  obtain ⟨v', w', hr, h2, h3⟩ := run_append_mark o.type base v l w hg hv ad m c0 c1 hl hbase
  unfold Oper.wp execOp
  simp only [ho, resolve, invoke, builtin, Sem.run_bind, Sem.run_pure, Result.andThen_ok, List.map_toArray, List.map_cons, List.map_nil, hs, hx, hr]
  exact h v' w' h2 h3

theorem Appended.size {base : Nat} {w w' : World} (h : Appended base w w') : w.heap.size ≤ w'.heap.size := by
  rcases h with h | ⟨g, _, _, h⟩
  · exact h.size
  · exact h.size
theorem Appended.below {base B : Nat} {W w w' : World} (h : Appended base w w') (hb : Below B W w) (hB : B ≤ base) (hw : B ≤ w.heap.size) : Below B W w' := by
  rcases h with h | ⟨g, hg, _, h⟩
  · exact hb.grown h hw (fun k e => by cases e)
  · exact hb.grown h hw (fun k e => by simp at e; omega)
/-- What lies ahead of the gathered rows is as it was. -/
theorem Appended.far {base : Nat} {w w' : World} (h : Appended base w w') (hw : base ≤ w.heap.size) : Below base w w' := h.below (Below.refl _ _) (Nat.le_refl _) hw

end Go.Proofs.YtpfhegengmlkmacGreatDoor
/- append of one mark onto marks that the call gathers: which blocks turn, as the iterator's rounds ask it. -/
namespace Go.Proofs.YtpfhegengmlkmacGreatDoor
open Go.RowKit Go.BigFrame

theorem Appended.ks {base lo hi : Nat} {w w' : World} (h : Appended base w w') (hb : lo ≤ base) : KS lo hi w w' := by
  rcases h with h | ⟨g, hg, ⟨u, hu⟩, h⟩
  · exact ⟨h.size, fun k o _ hk _ => (h.block k (Array.getElem?_eq_some_iff.1 hk).1 (by simp)).trans hk⟩
  · refine ⟨h.size, fun k o hn hk _ => (h.block k (Array.getElem?_eq_some_iff.1 hk).1 ?_).trans hk⟩
    intro e
    obtain rfl : k = g := by simpa using e
    rcases hn with hn | ⟨_, hn⟩
    · omega
    · rw [hu] at hn; cases hn
theorem Appended.keeps {base : Nat} {w w' : World} (h : Appended base w w') : KeepsOthers w w' := by
  rcases h with h | ⟨g, hg, ⟨u, hu⟩, h⟩
  · exact KeepsOthers.of_grownBy h (fun j o e => by cases e)
  · refine KeepsOthers.of_grownBy h (fun j o e hj => ?_)
    obtain rfl : g = j := by simpa using e
    obtain ⟨ob, h1, h2⟩ := cell_obj hu
    rw [h1] at hj
    cases hj
    exact h2

end Go.Proofs.YtpfhegengmlkmacGreatDoor
/- The walk of impl.StampJoin. -/
namespace Go.Proofs.YtpfhegengmlkmacGreatDoor
open Go.RowKit Go.Shelf Go.BigFrame
attribute [local go_sem] Oper.semAt_some

/-- The two results in their boxes, as they were laid. -/
structure Res2 (b : Nat) (w : World) : Prop where
  c0 : w.cell? ⟨b, 0, none⟩ = some (.slice none 0 0)
  f0 : w.frozen? ⟨b, 0, none⟩ = false
  c1 : w.cell? ⟨b + 1, 0, none⟩ = some (.bool false)
  f1 : w.frozen? ⟨b + 1, 0, none⟩ = false
theorem Res2.lt {b : Nat} {w : World} (h : Res2 b w) : b + 1 < w.heap.size := block_lt_of_cell h.c1
theorem Res2.below {b : Nat} {w w' : World} (h : Res2 b w) (hb : Below w.heap.size w w') : Res2 b w' := by
  have h1 := h.lt
  exact ⟨cell_on hb (by omega) h.c0, (hb.frozen (p := ⟨b, 0, none⟩) (by simp only; omega)).trans h.f0, cell_on hb h1 h.c1, (hb.frozen (p := ⟨b + 1, 0, none⟩) h1).trans h.f1⟩
theorem Res2.kept {b : Nat} {w w' : World} {row : Option Nat} (h : Res2 b w) (hg : w.grownBy w' row) (hr : ∀ r, row = some r → ∃ o : Obj, w.heap[r]? = some o ∧ o.isCells = false) : Res2 b w' :=
  ⟨cell_kept h.c0 hg hr, (frozen_kept h.c0 hg hr).trans h.f0, cell_kept h.c1 hg hr, (frozen_kept h.c1 hg hr).trans h.f1⟩

theorem Res2.upto {b B : Nat} {w w' : World} (h : Res2 b w) (hb : Below B w w') (hB : b + 1 < B) : Res2 b w' :=
  ⟨(hb.cell (p := ⟨b, 0, none⟩) (by simp only; omega)).trans h.c0, (hb.frozen (p := ⟨b, 0, none⟩) (by simp only; omega)).trans h.f0, (hb.cell (p := ⟨b + 1, 0, none⟩) hB).trans h.c1, (hb.frozen (p := ⟨b + 1, 0, none⟩) hB).trans h.f1⟩
theorem Res2.set {b J : Nat} {w : World} (h : Res2 b w) (h0 : b ≠ J) (h1 : b + 1 ≠ J) (v : Value) : Res2 b (w.setCell ⟨J, 0, none⟩ v) :=
  ⟨(far_set _ _ h0).trans h.c0, (World.frozen?_of_block (Below.heap_setCell _ _ _ _ h0)).trans h.f0, (far_set _ _ h1).trans h.c1, (World.frozen?_of_block (Below.heap_setCell _ _ _ _ h1)).trans h.f1⟩
theorem Gath.kept {w w' : World} {B : Nat} {v : Value} {l : List (ByteArray × Int)} {row : Option Nat} (h : Gath w B v l) (hg : w.grownBy w' row) (hr : ∀ r, row = some r → ∃ o : Obj, w.heap[r]? = some o ∧ o.isCells = false) : Gath w' B v l := by
  obtain ⟨hl, h | ⟨g, cap, cur, hv, hgB, hh, r⟩⟩ := h
  · exact ⟨hl, .inl h⟩
  · exact ⟨hl, .inr ⟨g, cap, cur, hv, hgB, (grownBy_keeps_cells hg hr hh rfl).trans hh, r⟩⟩
theorem Gath.far {w w' : World} {B : Nat} {v : Value} {l : List (ByteArray × Int)} (h : Gath w B v l) (hk : ∀ k, B ≤ k → k < w.heap.size → w'.heap[k]? = w.heap[k]?) : Gath w' B v l := by
  obtain ⟨hl, h | ⟨g, cap, cur, hv, hgB, hh, r⟩⟩ := h
  · exact ⟨hl, .inl h⟩
  · exact ⟨hl, .inr ⟨g, cap, cur, hv, hgB, (hk g hgB (Array.getElem?_eq_some_iff.1 hh).1).trans hh, r⟩⟩
/-- What holds between two rounds: the results' boxes at r and r + 1; the join so far in the box J, its marks from block B on. -/
def JInv (r J B : Nat) (pre : List PM) (W : World) : Prop :=
  Res2 r W ∧ (∃ jv, W.cell? ⟨J, 0, none⟩ = some jv ∧ W.frozen? ⟨J, 0, none⟩ = false ∧ Gath W B jv (joinP (pre.map PM.p)) ∧ (pre = [] → jv = .slice none 0 0)) ∧ pre.length ≤ 12 ∧ B ≤ W.heap.size
theorem JInv.kept {r J B : Nat} {pre : List PM} {w w' : World} {row : Option Nat} (h : JInv r J B pre w) (hg : w.grownBy w' row) (hr : ∀ r, row = some r → ∃ o : Obj, w.heap[r]? = some o ∧ o.isCells = false) : JInv r J B pre w' := by
  obtain ⟨h1, ⟨jv, c, f, g, e⟩, h3, h4⟩ := h
  exact ⟨h1.kept hg hr, ⟨jv, cell_kept c hg hr, (frozen_kept c hg hr).trans f, g.kept hg hr, e⟩, h3, Nat.le_trans h4 hg.size⟩
theorem JInv.below {r J B : Nat} {pre : List PM} {w w' : World} (h : JInv r J B pre w) (hb : Below w.heap.size w w') : JInv r J B pre w' := by
  obtain ⟨h1, ⟨jv, c, f, g, e⟩, h3, h4⟩ := h
  have hl := block_lt_of_cell c
  exact ⟨h1.below hb, ⟨jv, cell_on hb hl c, (hb.frozen (p := ⟨J, 0, none⟩) hl).trans f, g.keep hb, e⟩, h3, Nat.le_trans h4 hb.size⟩
theorem none_kept {W W' : World} {row : Option Nat} {b : Nat} {v : Value} (h : W.cell? ⟨b, 0, none⟩ = some v) (hn : W.cell? ⟨b, 3, none⟩ = none) (hg : W.grownBy W' row) (hrow : ∀ r, row = some r → ∃ o : Obj, W.heap[r]? = some o ∧ o.isCells = false) : W'.cell? ⟨b, 3, none⟩ = none := by
  obtain ⟨o, ho, hc⟩ := cells_of_cell h
  rw [World.cell?_of_block (w := W) (w' := W') (a := ⟨b, 3, none⟩) (grownBy_keeps_cells hg hrow ho hc)]; exact hn
theorem join_len (pre : List PM) : (joinP (pre.map PM.p)).length = pre.length := by simp [joinP]
theorem join_snoc (pre : List PM) (x : PM) : joinP ((pre ++ [x]).map PM.p) = joinP (pre.map PM.p) ++ [laterM x.p.1 x.p.2] := by simp [joinP]
theorem later_size (x : PM) : (laterM x.p.1 x.p.2).1.size ≤ 1048576 := by
  unfold laterM
  split
  · exact x.h.2
  · exact x.h.1

set_option maxRecDepth 100000 in
set_option maxHeartbeats 4000000 in
theorem implJoin_any (aa ab : Option Addr) (ca cb : Nat) (la lb : List (ByteArray × Int)) (w : World) (hla : la.length ≤ maxLen) (hlb : lb.length ≤ maxLen) (hca : la.length ≤ ca) (hcb : lb.length ≤ cb) (ha : Row w aa la) (hb : Row w ab lb)
    (hsa : ∀ j, (h : j < la.length) → la[j].1.size ≤ maxLen) (hsb : ∀ j, (h : j < lb.length) → lb[j].1.size ≤ maxLen) :
    Calls Tryz.prog 141 #[.slice aa la.length ca, .slice ab lb.length cb] w fun e w' => (∃ v m ok, e = .returned (.tuple #[v, .bool ok]) ∧ Gath w' w.heap.size v m ∧ IsJ la lb m ok) ∧ Below w.heap.size w w' := by
  refine (callsIn_wide (n := 5)).1 ?_
  refine callsIn_of_wp_marks Tryz.func141 rfl trivial ?_ rfl
  simp only [Tryz.ntmps141, List.size_toArray, List.length_cons, List.length_nil, Nat.reduceAdd, Nat.reduceSub, Array.replicate_succ, Array.replicate_zero, List.push_toArray, List.append_toArray, List.nil_append, List.cons_append]
  gi_wp2_with fail
  have hba : Below w.heap.size w ((w.alloc (.cells #[.slice none 0 0] 34)).alloc (.cells #[.bool false] 4)) := ((Below.refl _ _).alloc (Nat.le_refl _) _).alloc (by simp) _
  have R0 : Res2 w.heap.size ((w.alloc (.cells #[.slice none 0 0] 34)).alloc (.cells #[.bool false] 4)) := ⟨by simp [go_sem], by simp [go_sem], by simp [go_sem], by simp [go_sem]⟩
  generalize (w.alloc (.cells #[.slice none 0 0] 34)).alloc (.cells #[.bool false] 4) = w0 at *
  refine ⟨trivial, (callsIn_wide.2 (implStampOk_any aa ca la _ hla (ha.below hba) hsa)).mono ?_⟩
  rintro e w1 ⟨⟨r, rfl, hr1⟩, hb1⟩
  have B1 : Below w.heap.size w w1 := hba.trans (hb1.mono hba.size)
  have R1 := R0.below hb1
  have z1 := R1.lt
  obtain ⟨c0, f0, c1, f1⟩ := R1
  cases r
  · have hn : ¬ StampP la := fun h => by simpa using hr1.2 h
    clear hr1
    gi_wp2_with fail
    refine ⟨trivial, ?_⟩
    gi_wp2_with fail
    refine ⟨.tuple #[.slice none 0 0, .bool false], ?_, ⟨_, [], false, rfl, Gath.none _ _, .inl ⟨fun h => hn h.1, rfl, rfl⟩⟩, (B1.setCell (p := ⟨w.heap.size, 0, none⟩) (Nat.le_refl _) _).setCell (p := ⟨w.heap.size + 1, 0, none⟩) (Nat.le_succ _) _⟩
    simp [results, Tryz.f141, go_sem, c0, c1]
  have hya : StampP la := hr1.1 rfl
  clear hr1
  gi_wp2_with fail
  refine ⟨trivial, (callsIn_wide.2 (implStampOk_any ab cb lb _ hlb (hb.below B1) hsb)).mono ?_⟩
  rintro e w2 ⟨⟨r, rfl, hr2⟩, hb2⟩
  have B2 : Below w.heap.size w w2 := B1.trans (hb2.mono B1.size)
  have R2 := (R0.below hb1).below hb2
  have z2 := R2.lt
  clear hb2 z1 B1 c0 f0 c1 f1 hb1 R0
  cases r
  · have hn : ¬ StampP lb := fun h => by simpa using hr2.2 h
    clear hr2
    obtain ⟨c0, f0, c1, f1⟩ := R2
    gi_wp2_with fail
    refine ⟨.tuple #[.slice none 0 0, .bool false], ?_, ⟨_, [], false, rfl, Gath.none _ _, .inl ⟨fun h => hn h.2, rfl, rfl⟩⟩, (B2.setCell (p := ⟨w.heap.size, 0, none⟩) (Nat.le_refl _) _).setCell (p := ⟨w.heap.size + 1, 0, none⟩) (Nat.le_succ _) _⟩
    simp [results, Tryz.f141, go_sem, c0, c1]
  have hyb : StampP lb := hr2.1 rfl
  clear hr2
  gi_wp2_with fail
  refine ⟨trivial, (callsIn_wide.2 (sideBySide_any aa ab _ _ ca cb _)).mono ?_⟩
  rintro e w3 ⟨rfl, rfl⟩
  simp only [World.size_alloc]
  obtain ⟨W0, hW0⟩ : ∃ W0, ((w2.alloc (.cells #[.slice none 0 0] 34)).alloc (.cells #[.slice aa la.length ca] 34)).alloc (.cells #[.slice ab lb.length cb] 34) = W0 := ⟨_, rfl⟩
  have cO : W0.cell? ⟨w2.heap.size, 0, none⟩ = some (.slice none 0 0) := by rw [← hW0]; simp [go_sem]
  have fO : W0.frozen? ⟨w2.heap.size, 0, none⟩ = false := by rw [← hW0]; simp [go_sem]
  have cA : W0.cell? ⟨w2.heap.size + 1, 0, none⟩ = some (.slice aa la.length ca) := by rw [← hW0]; simp [go_sem]
  have cB : W0.cell? ⟨w2.heap.size + 1 + 1, 0, none⟩ = some (.slice ab lb.length cb) := by rw [← hW0]; simp [go_sem]
  have nA3 : W0.cell? ⟨w2.heap.size + 1, 3, none⟩ = none := by rw [← hW0]; simp [go_sem]
  have nB3 : W0.cell? ⟨w2.heap.size + 1 + 1, 3, none⟩ = none := by rw [← hW0]; simp [go_sem]
  have hsz : W0.heap.size = w2.heap.size + 3 := by rw [← hW0]; simp
  have b20 : Below w2.heap.size w2 W0 := by rw [← hW0]; exact (((Below.refl _ _).alloc (Nat.le_refl _) _).alloc (by simp) _).alloc (by simp; omega) _
  have B0 : Below w.heap.size w W0 := B2.trans (b20.mono B2.size)
  have R0 := R2.below b20
  rw [hW0]
  clear hW0 b20 R2
  gi_wp2_with fail
  refine wpIn_rangeFunc_ownH (n := 5) rfl (by omega) (gf := 177) (lb := #[.pointer (some ⟨w2.heap.size + 1, 0, none⟩), .pointer (some ⟨w2.heap.size + 1 + 1, 0, none⟩)]) rfl trivial (enters_of Tryz.func177 (by kernel_rfl) rfl)
    (side_stops 4 w.heap.size (w2.heap.size + 1) (w2.heap.size + 1) (w2.heap.size + 1 + 1) aa ab ca cb la lb hca hcb hya hyb (Nat.le_refl _) (by omega) W0 (by omega) cA cB nA3 nB3 (ha.low.below B0) (hb.low.below B0)) KS.trans (fun W l o o' _ h1 h2 _ => KS.put W l o o' h1 h2) (Below.refl _ _) (fun _ => rfl)
    (fun pre W => JInv w.heap.size w2.heap.size W0.heap.size pre W ∧ Below w.heap.size w W)
    (fun c pre W => (c = .ret ∧ 12 < pre.length ∧ Res2 w.heap.size W) ∧ Below w.heap.size w W)
    (OwnFrom.and (Go.Own.from (I := JInv w.heap.size w2.heap.size W0.heap.size) (fun s A B row hs hg hr => JInv.kept hs hg hr) _) (ownFrom_below (Nat.le_refl _) (by omega)))
    (fun c => OwnFrom.and (Go.Own.from (fun s A B row hs hg hr => ⟨hs.1, hs.2.1, hs.2.2.kept hg hr⟩) _) (ownFrom_below (Nat.le_refl _) (by omega)))
    ⟨⟨R0, ⟨_, cO, fO, Gath.none _ _, fun _ => rfl⟩, by simp, Nat.le_refl _⟩, B0⟩
    (fun x a' W => ∃ bx bz, W0.heap.size ≤ bx ∧ W0.heap.size ≤ bz ∧ (W.cell? ⟨bx, 0, none⟩ = some (.string x.p.1.1) ∧ W.cell? ⟨bx, 1, none⟩ = some (.int .i64 x.p.1.2) ∧ W.cell? ⟨bz, 0, none⟩ = some (.string x.p.2.1) ∧ W.cell? ⟨bz, 1, none⟩ = some (.int .i64 x.p.2.2) ∧ W.cell? ⟨bx, 3, none⟩ = none ∧ W.cell? ⟨bz, 3, none⟩ = none) ∧ a' = { tmps := #[.slice aa la.length ca, .slice ab lb.length cb, undef, undef, .pointer (some ⟨w.heap.size, 0, none⟩), .pointer (some ⟨w.heap.size + 1, 0, none⟩), .pointer (some ⟨w2.heap.size, 0, none⟩), .pointer (some ⟨bx, 0, none⟩), .pointer (some ⟨bz, 0, none⟩), .slice aa la.length ca, .bool true, .bool false, .bool false, .slice ab lb.length cb, .bool true, .bool false, .bool false, .slice aa la.length ca, .slice ab lb.length cb, .func (.func 177) #[] #[.pointer (some ⟨w2.heap.size + 1, 0, none⟩), .pointer (some ⟨w2.heap.size + 1 + 1, 0, none⟩)], .agg #[.string x.p.1.1, .int .i64 x.p.1.2], .agg #[.string x.p.2.1, .int .i64 x.p.2.2], undef, undef, undef, undef, undef, undef, undef, undef, undef, undef, undef], defers := [] })
    (fun x a' s A B row hs hg hr => by
      obtain ⟨bx, bz, h1, h2, h3, h4⟩ := hs
      exact ⟨bx, bz, h1, h2, ⟨cell_kept h3.1 hg (fun r e => (hr r e).2), cell_kept h3.2.1 hg (fun r e => (hr r e).2), cell_kept h3.2.2.1 hg (fun r e => (hr r e).2), cell_kept h3.2.2.2.1 hg (fun r e => (hr r e).2), none_kept h3.1 h3.2.2.2.2.1 hg (fun r e => (hr r e).2), none_kept h3.2.2.1 h3.2.2.2.2.2 hg (fun r e => (hr r e).2)⟩, h4⟩) ?assign ?body ?done ?stop
  case assign =>
    rintro l pre x W K ⟨hI, hB⟩ hK
    simp only [encP]
    gi_wp2
    have hb2 : Below W.heap.size W ((W.alloc (.cells #[.string x.p.1.1, .int .i64 x.p.1.2] 144)).alloc (.cells #[.string x.p.2.1, .int .i64 x.p.2.2] 144)) := ((Below.refl _ _).alloc (Nat.le_refl _) _).alloc (by simp) _
    exact hK _ _ (keepsFrom_below _ hb2) (KS.of_below hb2) ⟨hI.below hb2, hB.trans (hb2.mono hB.size)⟩ ⟨W.heap.size, W.heap.size + 1, hI.2.2.2, Nat.le_succ_of_le hI.2.2.2, ⟨by simp [go_sem], by simp [go_sem], by simp [go_sem], by simp [go_sem], by simp [go_sem], by simp [go_sem]⟩, rfl⟩
  case body =>
    rintro l pre x a' W hle ⟨r, hr⟩ ⟨⟨hR, ⟨jv, hc, hf, hg, hnil⟩, hlen, hW0⟩, hB⟩ ⟨bx, bz, h1, h2, ⟨x0, x1, z0, z1, x3, z3⟩, rfl⟩ hlt
    have HIL := join_len pre
    obtain ⟨ag, capg, rfl, hrow⟩ := hg.shape
    rw [HIL] at hc hnil hg
    by_cases h12 : pre.length = 12
    · have h12' : ((pre.length : Int) == 12) = true := by simp [h12]
      obtain ⟨c0, f0, c1, f1⟩ := id hR
      have HR : Hid (∀ W', W' = (W.setCell ⟨w.heap.size, 0, none⟩ (.slice none 0 0)).setCell ⟨w.heap.size + 1, 0, none⟩ (.bool false) → KeepsFrom W0.heap.size W W' ∧ (12 < (pre ++ [x]).length ∧ Res2 w.heap.size W') ∧ Below w.heap.size w W') := by
        rintro W' rfl
        refine ⟨((KeepsOthers.setCell _ _ _).trans (KeepsOthers.setCell _ _ _)).from _, ⟨by simp; omega, ⟨by simp [go_sem, c0], by simp [go_sem, f0], by simp [go_sem, c1], by simp [go_sem, f1]⟩⟩, (hB.setCell (p := ⟨w.heap.size, 0, none⟩) (Nat.le_refl _) _).setCell (p := ⟨w.heap.size + 1, 0, none⟩) (Nat.le_succ _) _⟩
      gi_wp2_with fail
      have q := HR.out _ rfl
      exact ⟨q.1, ⟨rfl, q.2.1⟩, q.2.2⟩
    have h12' : ((pre.length : Int) == 12) = false := by simp; omega
    have HFIN : Hid (∀ (w6 w7 : World) (v7 : Value), Below W.heap.size W w6 → Gath w7 W0.heap.size v7 (joinP (pre.map PM.p) ++ [laterM x.p.1 x.p.2]) → Appended W0.heap.size w6 w7 →
        KeepsFrom W0.heap.size W (w7.setCell ⟨w2.heap.size, 0, none⟩ v7) ∧ KS w.heap.size (w2.heap.size + 1) W (w7.setCell ⟨w2.heap.size, 0, none⟩ v7) ∧ JInv w.heap.size w2.heap.size W0.heap.size (pre ++ [x]) (w7.setCell ⟨w2.heap.size, 0, none⟩ v7) ∧ Below w.heap.size w (w7.setCell ⟨w2.heap.size, 0, none⟩ v7)) := by
      intro w6 w7 v7 b6 hg7 ha7
      have hW6 : W0.heap.size ≤ w6.heap.size := Nat.le_trans hW0 b6.size
      have far7 := ha7.far hW6
      have cJ7 : w7.cell? ⟨w2.heap.size, 0, none⟩ = some (.slice ag pre.length capg) := (far7.cell (p := ⟨w2.heap.size, 0, none⟩) (by simp only; omega)).trans (cell_on b6 (block_lt_of_cell hc) hc)
      have fJ7 : w7.frozen? ⟨w2.heap.size, 0, none⟩ = false := (far7.frozen (p := ⟨w2.heap.size, 0, none⟩) (by simp only; omega)).trans ((b6.frozen (p := ⟨w2.heap.size, 0, none⟩) (by simp only; omega)).trans hf)
      have hz7 := (KeepsOthers.setCell w7 ⟨w2.heap.size, 0, none⟩ v7).size
      refine ⟨(keepsFrom_below _ b6).trans ((ha7.keeps.trans (KeepsOthers.setCell _ _ _)).from _), ((KS.of_below b6).trans (ha7.ks B0.size)).trans ⟨hz7, fun k o hk h _ => ?_⟩, ⟨((hR.below b6).upto far7 (by omega)).set (by omega) (by omega) v7, ⟨v7, World.cell?_setCell_same' _ _ _ (by rw [cJ7]; rfl), by simp [go_sem, fJ7], ?_, fun e => by simp at e⟩, by simp; omega, by have := ha7.size; omega⟩, ?_⟩
      · rw [Below.heap_setCell _ _ _ _ (by simp only; omega)]; exact h
      · rw [join_snoc]
        exact hg7.far fun k h1 h2 => Below.heap_setCell _ _ _ _ (by simp only; omega)
      · exact (ha7.below (hB.trans (b6.mono hB.size)) B0.size (Nat.le_trans B0.size hW6)).setCell (p := ⟨w2.heap.size, 0, none⟩) (by simp only; omega) _
    clear h12
    gi_wp2_with fail
    have HLX : Hid (bx < W.heap.size) := block_lt_of_cell x0
    have HLZ : Hid (bz < W.heap.size) := block_lt_of_cell z0
    have hdr : Below W.heap.size W W.drew := (Below.refl _ _).drew
    have hS4 : ∀ u, Below W.heap.size W u → u.cell? ⟨bx, 0, none⟩ = some (.string x.p.1.1) ∧ u.cell? ⟨bx, 1, none⟩ = some (.int .i64 x.p.1.2) ∧ u.cell? ⟨bz, 0, none⟩ = some (.string x.p.2.1) ∧ u.cell? ⟨bz, 1, none⟩ = some (.int .i64 x.p.2.2) := fun u hu =>
      ⟨cell_on hu (block_lt_of_cell x0) x0, cell_on hu (block_lt_of_cell x1) x1, cell_on hu (block_lt_of_cell z0) z0, cell_on hu (block_lt_of_cell z1) z1⟩
    have HS4 : Hid _ := hS4
    have hSJ : ∀ u, Below W.heap.size W u → u.cell? ⟨w2.heap.size, 0, none⟩ = some (.slice ag pre.length capg) := fun u hu => cell_on hu (block_lt_of_cell hc) hc
    have HSJ : Hid _ := hSJ
    clear hS4 hSJ
    refine wpIn_region_heldR (S := fun u => u.cell? ⟨bx, 0, none⟩ = some (.string x.p.1.1) ∧ u.cell? ⟨bx, 1, none⟩ = some (.int .i64 x.p.1.2) ∧ u.cell? ⟨bz, 0, none⟩ = some (.string x.p.2.1) ∧ u.cell? ⟨bz, 1, none⟩ = some (.int .i64 x.p.2.2)) (by kernel_rfl) (by kernel_rfl) (fun ⟨_, _, h⟩ => h) ?_
    refine wpAnyH_take (i := 1) (v := .agg #[.string x.p.1.1, .int .i64 x.p.1.2]) rfl (by kernel_rfl) (by kernel_rfl) (by kernel_rfl) (fun _ _ _ h => h) (Or.inl ⟨by rfl, ?_⟩) ⟨x0, x1, z0, z1⟩ ?_
    · rintro u ⟨q1, q2, q3, q4⟩
      go_simp
    simp only [Act.put, List.setIfInBounds_toArray]
    refine wpAnyH_take (i := 2) (v := .agg #[.string x.p.2.1, .int .i64 x.p.2.2]) rfl (by kernel_rfl) (by kernel_rfl) (by kernel_rfl) (fun _ _ _ h => h) (Or.inl ⟨by rfl, ?_⟩) ⟨x0, x1, z0, z1⟩ ?_
    · rintro u ⟨q1, q2, q3, q4⟩
      go_simp
    simp only [Act.put]
    refine wpAnyH_ready (rs := [0, 3]) (by kernel_rfl) (by simp) ?_
    refine AllReadyH.cons rfl (fun K hK => ?_) (AllReadyH.cons rfl (fun K hK => ?_) AllReadyH.nil)
    · rw [if_pos (by rfl)]
      have hcJ := HSJ.out _ hdr
      go_simp
      refine hK.out _ _ (HS4.out _ hdr) (fun _ => ?_)
      clear hK K hcJ
      refine wpAnyH_ready (rs := [3]) (by kernel_rfl) (by simp) ?_
      refine AllReadyH.cons rfl (fun K hK => ?_) AllReadyH.nil
      rw [if_pos (by rfl)]
      go_simp
      refine (later_any _ _ _).mono ?_
      rintro e w4 ⟨rfl, hb4⟩
      have b4 := hdr.trans (hb4.mono hdr.size)
      refine hK.out _ _ (HS4.out _ b4) (fun _ => ?_)
      clear hK K
      refine wpAnyH_ready (rs := [4]) (by kernel_rfl) (by simp) ?_
      refine AllReadyH.cons rfl (fun K hK => ?_) AllReadyH.nil
      rw [if_pos (by rfl)]
      go_simp
      refine (fresh_any _ _ _ (by have := later_size x; omega)).mono ?_
      rintro e w5 ⟨rfl, hb5⟩
      have b5 := b4.trans (hb5.mono b4.size)
      refine hK.out _ _ (HS4.out _ b5) (fun _ => ?_)
      clear hK K
      refine wpAnyH_ready (rs := [5]) (by kernel_rfl) (by simp) ?_
      refine AllReadyH.cons rfl (fun K hK => ?_) AllReadyH.nil
      rw [if_pos (by rfl)]
      go_simp
      have b6 := b5.alloc b5.size (.cells #[.string (laterM x.p.1 x.p.2).1, .int .i64 (laterM x.p.1 x.p.2).2] 144)
      refine hK.out _ _ (HS4.out _ b6) (fun _ => ?_)
      clear hK K
      refine wpAnyH_ready (rs := [6]) (by kernel_rfl) (by simp) ?_
      refine AllReadyH.cons rfl (fun K hK => ?_) AllReadyH.nil
      rw [if_pos (by rfl)]
      have m0 := box0 w5 (.string (laterM x.p.1 x.p.2).1) (.int .i64 (laterM x.p.1 x.p.2).2) 144
      have m1 := box1 w5 (.string (laterM x.p.1 x.p.2).1) (.int .i64 (laterM x.p.1 x.p.2).2) 144
      generalize hw6 : w5.alloc (.cells #[.string (laterM x.p.1 x.p.2).1, .int .i64 (laterM x.p.1 x.p.2).2] 144) = w6 at *
      clear hw6
      refine wp_append_mark _ _ rfl W0.heap.size _ (joinP (pre.map PM.p)) rfl (hg.keep b6) (fun h => hnil (by simpa [joinP] using h)) ⟨w5.heap.size, 0, none⟩ (laterM x.p.1 x.p.2) rfl m0 (by simpa [Addr.add] using m1) (by omega) (Nat.le_trans hW0 b6.size) ?_
      intro v7 w7 hg7 ha7
      have hW6 : W0.heap.size ≤ w6.heap.size := Nat.le_trans hW0 b6.size
      have far7 := ha7.far hW6
      have cJ7 : w7.cell? ⟨w2.heap.size, 0, none⟩ = some (.slice ag pre.length capg) := (far7.cell (p := ⟨w2.heap.size, 0, none⟩) (by simp only; omega)).trans (HSJ.out _ b6)
      have fJ7 : w7.frozen? ⟨w2.heap.size, 0, none⟩ = false := (far7.frozen (p := ⟨w2.heap.size, 0, none⟩) (by simp only; omega)).trans ((b6.frozen (p := ⟨w2.heap.size, 0, none⟩) (by simp only; omega)).trans hf)
      have ks6 : KS w.heap.size (w2.heap.size + 1) W w7 := (KS.of_below b6).trans (ha7.ks B0.size)
      have nx : bx < W.heap.size := HLX.out
      have nz : bz < W.heap.size := HLZ.out
      refine hK.out _ _ ⟨ks6.cell (.inr ⟨by omega, x3⟩) x0, ks6.cell (.inr ⟨by omega, x3⟩) x1, ks6.cell (.inr ⟨by omega, z3⟩) z0, ks6.cell (.inr ⟨by omega, z3⟩) z1⟩ (fun hS7 => ?_)
      clear hK K
      refine wpAnyH_ready (rs := [7]) (by kernel_rfl) (by simp) ?_
      refine AllReadyH.cons rfl (fun K hK => ?_) AllReadyH.nil
      rw [if_pos (by rfl)]
      obtain ⟨a7, n7, rfl, hrow7⟩ := hg7.shape
      go_simp
      refine hK.out _ _ ⟨(far_set _ _ (by omega)).trans hS7.1, (far_set _ _ (by omega)).trans hS7.2.1, (far_set _ _ (by omega)).trans hS7.2.2.1, (far_set _ _ (by omega)).trans hS7.2.2.2⟩ (fun _ => ?_)
      refine wpAnyH_done (by kernel_rfl) ?_ _
      refine HFIN.out w6 w7 _ b6 ?_ ha7
      simp only [List.length_append, List.length_cons, List.length_nil, Nat.zero_add, HIL] at hg7
      exact hg7
    · rw [if_pos (by rfl)]
      go_simp
      refine (later_any _ _ _).mono ?_
      rintro e w4 ⟨rfl, hb4⟩
      have b4 := hdr.trans (hb4.mono hdr.size)
      refine hK.out _ _ (HS4.out _ b4) (fun _ => ?_)
      clear hK K
      refine wpAnyH_ready (rs := [0, 4]) (by kernel_rfl) (by simp) ?_
      refine AllReadyH.cons rfl (fun K hK => ?_) (AllReadyH.cons rfl (fun K hK => ?_) AllReadyH.nil)
      · rw [if_pos (by rfl)]
        have hcJ := HSJ.out _ b4
        go_simp
        refine hK.out _ _ (HS4.out _ b4) (fun _ => ?_)
        clear hK K hcJ
        refine wpAnyH_ready (rs := [4]) (by kernel_rfl) (by simp) ?_
        refine AllReadyH.cons rfl (fun K hK => ?_) AllReadyH.nil
        rw [if_pos (by rfl)]
        go_simp
        refine (fresh_any _ _ _ (by have := later_size x; omega)).mono ?_
        rintro e w5 ⟨rfl, hb5⟩
        have b5 := b4.trans (hb5.mono b4.size)
        refine hK.out _ _ (HS4.out _ b5) (fun _ => ?_)
        clear hK K
        refine wpAnyH_ready (rs := [5]) (by kernel_rfl) (by simp) ?_
        refine AllReadyH.cons rfl (fun K hK => ?_) AllReadyH.nil
        rw [if_pos (by rfl)]
        go_simp
        have b6 := b5.alloc b5.size (.cells #[.string (laterM x.p.1 x.p.2).1, .int .i64 (laterM x.p.1 x.p.2).2] 144)
        refine hK.out _ _ (HS4.out _ b6) (fun _ => ?_)
        clear hK K
        refine wpAnyH_ready (rs := [6]) (by kernel_rfl) (by simp) ?_
        refine AllReadyH.cons rfl (fun K hK => ?_) AllReadyH.nil
        rw [if_pos (by rfl)]
        have m0 := box0 w5 (.string (laterM x.p.1 x.p.2).1) (.int .i64 (laterM x.p.1 x.p.2).2) 144
        have m1 := box1 w5 (.string (laterM x.p.1 x.p.2).1) (.int .i64 (laterM x.p.1 x.p.2).2) 144
        generalize hw6 : w5.alloc (.cells #[.string (laterM x.p.1 x.p.2).1, .int .i64 (laterM x.p.1 x.p.2).2] 144) = w6 at *
        clear hw6
        refine wp_append_mark _ _ rfl W0.heap.size _ (joinP (pre.map PM.p)) rfl (hg.keep b6) (fun h => hnil (by simpa [joinP] using h)) ⟨w5.heap.size, 0, none⟩ (laterM x.p.1 x.p.2) rfl m0 (by simpa [Addr.add] using m1) (by omega) (Nat.le_trans hW0 b6.size) ?_
        intro v7 w7 hg7 ha7
        have hW6 : W0.heap.size ≤ w6.heap.size := Nat.le_trans hW0 b6.size
        have far7 := ha7.far hW6
        have cJ7 : w7.cell? ⟨w2.heap.size, 0, none⟩ = some (.slice ag pre.length capg) := (far7.cell (p := ⟨w2.heap.size, 0, none⟩) (by simp only; omega)).trans (HSJ.out _ b6)
        have fJ7 : w7.frozen? ⟨w2.heap.size, 0, none⟩ = false := (far7.frozen (p := ⟨w2.heap.size, 0, none⟩) (by simp only; omega)).trans ((b6.frozen (p := ⟨w2.heap.size, 0, none⟩) (by simp only; omega)).trans hf)
        have ks6 : KS w.heap.size (w2.heap.size + 1) W w7 := (KS.of_below b6).trans (ha7.ks B0.size)
        have nx : bx < W.heap.size := HLX.out
        have nz : bz < W.heap.size := HLZ.out
        refine hK.out _ _ ⟨ks6.cell (.inr ⟨by omega, x3⟩) x0, ks6.cell (.inr ⟨by omega, x3⟩) x1, ks6.cell (.inr ⟨by omega, z3⟩) z0, ks6.cell (.inr ⟨by omega, z3⟩) z1⟩ (fun hS7 => ?_)
        clear hK K
        refine wpAnyH_ready (rs := [7]) (by kernel_rfl) (by simp) ?_
        refine AllReadyH.cons rfl (fun K hK => ?_) AllReadyH.nil
        rw [if_pos (by rfl)]
        obtain ⟨a7, n7, rfl, hrow7⟩ := hg7.shape
        go_simp
        refine hK.out _ _ ⟨(far_set _ _ (by omega)).trans hS7.1, (far_set _ _ (by omega)).trans hS7.2.1, (far_set _ _ (by omega)).trans hS7.2.2.1, (far_set _ _ (by omega)).trans hS7.2.2.2⟩ (fun _ => ?_)
        refine wpAnyH_done (by kernel_rfl) ?_ _
        refine HFIN.out w6 w7 _ b6 ?_ ha7
        simp only [List.length_append, List.length_cons, List.length_nil, Nat.zero_add, HIL] at hg7
        exact hg7
      · rw [if_pos (by rfl)]
        go_simp
        refine (fresh_any _ _ _ (by have := later_size x; omega)).mono ?_
        rintro e w5 ⟨rfl, hb5⟩
        have b5 := b4.trans (hb5.mono b4.size)
        refine hK.out _ _ (HS4.out _ b5) (fun _ => ?_)
        clear hK K
        refine wpAnyH_ready (rs := [0, 5]) (by kernel_rfl) (by simp) ?_
        refine AllReadyH.cons rfl (fun K hK => ?_) (AllReadyH.cons rfl (fun K hK => ?_) AllReadyH.nil)
        · rw [if_pos (by rfl)]
          have hcJ := HSJ.out _ b5
          go_simp
          refine hK.out _ _ (HS4.out _ b5) (fun _ => ?_)
          clear hK K hcJ
          refine wpAnyH_ready (rs := [5]) (by kernel_rfl) (by simp) ?_
          refine AllReadyH.cons rfl (fun K hK => ?_) AllReadyH.nil
          rw [if_pos (by rfl)]
          go_simp
          have b6 := b5.alloc b5.size (.cells #[.string (laterM x.p.1 x.p.2).1, .int .i64 (laterM x.p.1 x.p.2).2] 144)
          refine hK.out _ _ (HS4.out _ b6) (fun _ => ?_)
          clear hK K
          refine wpAnyH_ready (rs := [6]) (by kernel_rfl) (by simp) ?_
          refine AllReadyH.cons rfl (fun K hK => ?_) AllReadyH.nil
          rw [if_pos (by rfl)]
          have m0 := box0 w5 (.string (laterM x.p.1 x.p.2).1) (.int .i64 (laterM x.p.1 x.p.2).2) 144
          have m1 := box1 w5 (.string (laterM x.p.1 x.p.2).1) (.int .i64 (laterM x.p.1 x.p.2).2) 144
          generalize hw6 : w5.alloc (.cells #[.string (laterM x.p.1 x.p.2).1, .int .i64 (laterM x.p.1 x.p.2).2] 144) = w6 at *
          clear hw6
          refine wp_append_mark _ _ rfl W0.heap.size _ (joinP (pre.map PM.p)) rfl (hg.keep b6) (fun h => hnil (by simpa [joinP] using h)) ⟨w5.heap.size, 0, none⟩ (laterM x.p.1 x.p.2) rfl m0 (by simpa [Addr.add] using m1) (by omega) (Nat.le_trans hW0 b6.size) ?_
          intro v7 w7 hg7 ha7
          have hW6 : W0.heap.size ≤ w6.heap.size := Nat.le_trans hW0 b6.size
          have far7 := ha7.far hW6
          have cJ7 : w7.cell? ⟨w2.heap.size, 0, none⟩ = some (.slice ag pre.length capg) := (far7.cell (p := ⟨w2.heap.size, 0, none⟩) (by simp only; omega)).trans (HSJ.out _ b6)
          have fJ7 : w7.frozen? ⟨w2.heap.size, 0, none⟩ = false := (far7.frozen (p := ⟨w2.heap.size, 0, none⟩) (by simp only; omega)).trans ((b6.frozen (p := ⟨w2.heap.size, 0, none⟩) (by simp only; omega)).trans hf)
          have ks6 : KS w.heap.size (w2.heap.size + 1) W w7 := (KS.of_below b6).trans (ha7.ks B0.size)
          have nx : bx < W.heap.size := HLX.out
          have nz : bz < W.heap.size := HLZ.out
          refine hK.out _ _ ⟨ks6.cell (.inr ⟨by omega, x3⟩) x0, ks6.cell (.inr ⟨by omega, x3⟩) x1, ks6.cell (.inr ⟨by omega, z3⟩) z0, ks6.cell (.inr ⟨by omega, z3⟩) z1⟩ (fun hS7 => ?_)
          clear hK K
          refine wpAnyH_ready (rs := [7]) (by kernel_rfl) (by simp) ?_
          refine AllReadyH.cons rfl (fun K hK => ?_) AllReadyH.nil
          rw [if_pos (by rfl)]
          obtain ⟨a7, n7, rfl, hrow7⟩ := hg7.shape
          go_simp
          refine hK.out _ _ ⟨(far_set _ _ (by omega)).trans hS7.1, (far_set _ _ (by omega)).trans hS7.2.1, (far_set _ _ (by omega)).trans hS7.2.2.1, (far_set _ _ (by omega)).trans hS7.2.2.2⟩ (fun _ => ?_)
          refine wpAnyH_done (by kernel_rfl) ?_ _
          refine HFIN.out w6 w7 _ b6 ?_ ha7
          simp only [List.length_append, List.length_cons, List.length_nil, Nat.zero_add, HIL] at hg7
          exact hg7
        · rw [if_pos (by rfl)]
          go_simp
          have b6 := b5.alloc b5.size (.cells #[.string (laterM x.p.1 x.p.2).1, .int .i64 (laterM x.p.1 x.p.2).2] 144)
          refine hK.out _ _ (HS4.out _ b6) (fun _ => ?_)
          clear hK K
          refine wpAnyH_ready (rs := [0]) (by kernel_rfl) (by simp) ?_
          refine AllReadyH.cons rfl (fun K hK => ?_) AllReadyH.nil
          rw [if_pos (by rfl)]
          have hcJ := HSJ.out _ b6
          go_simp
          refine hK.out _ _ (HS4.out _ b6) (fun _ => ?_)
          clear hK K hcJ
          refine wpAnyH_ready (rs := [6]) (by kernel_rfl) (by simp) ?_
          refine AllReadyH.cons rfl (fun K hK => ?_) AllReadyH.nil
          rw [if_pos (by rfl)]
          have m0 := box0 w5 (.string (laterM x.p.1 x.p.2).1) (.int .i64 (laterM x.p.1 x.p.2).2) 144
          have m1 := box1 w5 (.string (laterM x.p.1 x.p.2).1) (.int .i64 (laterM x.p.1 x.p.2).2) 144
          generalize hw6 : w5.alloc (.cells #[.string (laterM x.p.1 x.p.2).1, .int .i64 (laterM x.p.1 x.p.2).2] 144) = w6 at *
          clear hw6
          refine wp_append_mark _ _ rfl W0.heap.size _ (joinP (pre.map PM.p)) rfl (hg.keep b6) (fun h => hnil (by simpa [joinP] using h)) ⟨w5.heap.size, 0, none⟩ (laterM x.p.1 x.p.2) rfl m0 (by simpa [Addr.add] using m1) (by omega) (Nat.le_trans hW0 b6.size) ?_
          intro v7 w7 hg7 ha7
          have hW6 : W0.heap.size ≤ w6.heap.size := Nat.le_trans hW0 b6.size
          have far7 := ha7.far hW6
          have cJ7 : w7.cell? ⟨w2.heap.size, 0, none⟩ = some (.slice ag pre.length capg) := (far7.cell (p := ⟨w2.heap.size, 0, none⟩) (by simp only; omega)).trans (HSJ.out _ b6)
          have fJ7 : w7.frozen? ⟨w2.heap.size, 0, none⟩ = false := (far7.frozen (p := ⟨w2.heap.size, 0, none⟩) (by simp only; omega)).trans ((b6.frozen (p := ⟨w2.heap.size, 0, none⟩) (by simp only; omega)).trans hf)
          have ks6 : KS w.heap.size (w2.heap.size + 1) W w7 := (KS.of_below b6).trans (ha7.ks B0.size)
          have nx : bx < W.heap.size := HLX.out
          have nz : bz < W.heap.size := HLZ.out
          refine hK.out _ _ ⟨ks6.cell (.inr ⟨by omega, x3⟩) x0, ks6.cell (.inr ⟨by omega, x3⟩) x1, ks6.cell (.inr ⟨by omega, z3⟩) z0, ks6.cell (.inr ⟨by omega, z3⟩) z1⟩ (fun hS7 => ?_)
          clear hK K
          refine wpAnyH_ready (rs := [7]) (by kernel_rfl) (by simp) ?_
          refine AllReadyH.cons rfl (fun K hK => ?_) AllReadyH.nil
          rw [if_pos (by rfl)]
          obtain ⟨a7, n7, rfl, hrow7⟩ := hg7.shape
          go_simp
          refine hK.out _ _ ⟨(far_set _ _ (by omega)).trans hS7.1, (far_set _ _ (by omega)).trans hS7.2.1, (far_set _ _ (by omega)).trans hS7.2.2.1, (far_set _ _ (by omega)).trans hS7.2.2.2⟩ (fun _ => ?_)
          refine wpAnyH_done (by kernel_rfl) ?_ _
          refine HFIN.out w6 w7 _ b6 ?_ ha7
          simp only [List.length_append, List.length_cons, List.length_nil, Nat.zero_add, HIL] at hg7
          exact hg7
  case done =>
    rintro D ys W hD hS ⟨⟨hR, ⟨jv, hc, hf, hg, hnil⟩, hlen, hW0⟩, hB⟩ hK
    have hJ := joinP_of (stamp_sorted hya) (stamp_sorted hyb) (pairs_spec _ la lb (stamp_sorted hya) (stamp_sorted hyb) (Nat.le_refl _))
    rw [← hS] at hJ
    have HIL := join_len ys
    obtain ⟨ag, capg, rfl, hrow⟩ := hg.shape
    obtain ⟨c0, f0, c1, f1⟩ := id hR
    have HJ : Hid (JoinOf la lb (joinP (ys.map PM.p))) := hJ
    clear hJ
    generalize joinP (ys.map PM.p) = jl at *
    have hz := hR.lt
    rw [HIL] at hc hg
    gi_wp2
    have hg' : Gath ((W.setCell ⟨w.heap.size, 0, none⟩ (.slice ag ys.length capg)).setCell ⟨w.heap.size + 1, 0, none⟩ (.bool true)) W0.heap.size (.slice ag ys.length capg) jl :=
      hg.far fun k h1 h2 => (Below.heap_setCell _ _ _ _ (by simp only; omega)).trans (Below.heap_setCell _ _ _ _ (by simp only; omega))
    have hK' := ((KeepsOthers.setCell W ⟨w.heap.size, 0, none⟩ (.slice ag ys.length capg)).trans (KeepsOthers.setCell _ ⟨w.heap.size + 1, 0, none⟩ (.bool true))).same D _ hK rfl
    refine ⟨by simp, .inl ⟨_, _, rfl, run_takeDeferred hK', ?_⟩⟩
    have d0 : ((W.setCell ⟨w.heap.size, 0, none⟩ (.slice ag ys.length capg)).setCell ⟨w.heap.size + 1, 0, none⟩ (.bool true)).cell? ⟨w.heap.size, 0, none⟩ = some (.slice ag ys.length capg) := by simp [go_sem, c0]
    have d1 : ((W.setCell ⟨w.heap.size, 0, none⟩ (.slice ag ys.length capg)).setCell ⟨w.heap.size + 1, 0, none⟩ (.bool true)).cell? ⟨w.heap.size + 1, 0, none⟩ = some (.bool true) := by simp [go_sem, c1]
    have hr' : ∀ r, some D = some r → ∃ o : Obj, ((W.setCell ⟨w.heap.size, 0, none⟩ (.slice ag ys.length capg)).setCell ⟨w.heap.size + 1, 0, none⟩ (.bool true)).heap[r]? = some o ∧ o.isCells = false := fun r e => by cases e; exact ⟨_, hK', rfl⟩
    have e0 := cell_kept d0 (grownBy_putObj' _ D (.deferred none)) hr'
    have e1 := cell_kept d1 (grownBy_putObj' _ D (.deferred none)) hr'
    have hg5 := hg'.kept (grownBy_putObj' _ D (.deferred none)) hr'
    have hB2 := ((hB.setCell (p := ⟨w.heap.size, 0, none⟩) (Nat.le_refl _) (.slice ag ys.length capg)).setCell (p := ⟨w.heap.size + 1, 0, none⟩) (Nat.le_succ _) (.bool true)).trans (belowK_b (w := w) (Nat.le_refl _) _ D _ (.deferred none) (by omega) hK' rfl rfl)
    refine ⟨.tuple #[.slice ag ys.length capg, .bool true], ?_, ⟨_, jl, true, rfl, hg5.lower B0.size, .inr ⟨hya, hyb, jl, HJ.out, .inl ⟨by omega, rfl, rfl⟩⟩⟩, hB2⟩
    simp [results, Tryz.f141, go_sem, e0, e1]
  case stop =>
    rintro D c pre W hD hpre ⟨⟨rfl, h12, hR⟩, hB⟩ hK
    have hJ := joinP_of (stamp_sorted hya) (stamp_sorted hyb) (pairs_spec _ la lb (stamp_sorted hya) (stamp_sorted hyb) (Nat.le_refl _))
    have hlen : 12 < (joinP (pairsF (la.length + lb.length) la lb)).length := by
      have := hpre.length_le
      simp only [joinP, List.length_map] at this ⊢
      omega
    gi_wp2
    refine ⟨by simp, .inl ⟨_, _, rfl, run_takeDeferred hK, ?_⟩⟩
    have hR5 := hR.kept (grownBy_putObj' _ D (.deferred none)) (fun r e => by cases e; exact ⟨_, hK, rfl⟩)
    refine ⟨.tuple #[.slice none 0 0, .bool false], ?_, ⟨_, [], false, rfl, Gath.none _ _, .inr ⟨hya, hyb, _, hJ, .inr ⟨hlen, rfl, rfl⟩⟩⟩, hB.trans (belowK_b (w := w) (Nat.le_refl _) W D _ _ (by omega) hK rfl rfl)⟩
    simp [results, Tryz.f141, go_sem, hR5.c0, hR5.c1]

end Go.Proofs.YtpfhegengmlkmacGreatDoor
