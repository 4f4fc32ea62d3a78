/- Texts of this claim, one behind the other. -/
import Derived.Test.YtpfhegengmlkmaaGreatZK17
import Derived.Test.YtpfhegengmlkmaaGreatZK34
namespace Go.Proofs.YtpfhegengmlkmaaGreat
open Go.RowKit Go.BigFrame
set_option maxRecDepth 100000

theorem stamp_few {m : List (ByteArray × Int)} (h : StampP m) : m.length ≤ 40 ∧ ∀ y ∈ m, y.1.size ≤ 2000 := ⟨by have := h.1; omega, fun y hy => by
  obtain ⟨i, hi, rfl⟩ := List.mem_iff_getElem.1 hy
  have := (h.2.1 i hi).1.2.1
  omega⟩

theorem GathV.at {w : World} {B sa sc n q : Nat} {SL : List (Nat × Nat)} (h : GathV w B (.slice (some ⟨sa, 0, none⟩) n sc) SL) (hn : n = SL.length) (hq : q < SL.length) : ∃ gq cq, w.cell? ⟨sa, q, none⟩ = some (.slice (some ⟨gq, 0, none⟩) 4 cq) ∧ Four w gq 1000 ∧ B ≤ gq ∧ B ≤ sa := by
  subst hn
  have h1 := World.ownsRow.cellAt h.1 q (by omega)
  have h2 : (L : List (Nat × Nat)) → (hq : q < L.length) → (L.map fun p => (.slice (some ⟨p.1, 0, none⟩) 4 p.2 : Value))[q]? = some (.slice (some ⟨L[q].1, 0, none⟩) 4 L[q].2) := fun L hq => by simp [hq]
  obtain ⟨h3, h4, _⟩ := h.2 _ (List.getElem_mem hq)
  refine ⟨SL[q].1, SL[q].2, ?_, h4, h3, ?_⟩
  · rw [h1]; exact h2 SL hq
  · exact owns_from h.1 sa rfl
theorem GathJ.rowOf {w : World} {B n cap : Nat} {a : Option Addr} {L : List (ItemL × Option Addr × Nat)} (h : GathJ w B (.slice a n cap) L) : RowI w a (L.map (·.1)) := by
  obtain ⟨a', cap', e, _, hr, _⟩ := h.form
  obtain ⟨rfl, _, _⟩ : a = a' ∧ n = L.length ∧ cap = cap' := by simpa using e
  exact hr
theorem GathJ.cells {w : World} {B g n cap : Nat} {L : List (ItemL × Option Addr × Nat)} (h : GathJ w B (.slice (some ⟨g, 0, none⟩) n cap) L) {j : Nat} (hj : j < L.length) : w.cell? ⟨g, j * 2, none⟩ = some (.int .i64 L[j].1.1) ∧ w.cell? ⟨g, j * 2 + 1, none⟩ = some (.slice L[j].2.1 L[j].1.2.length L[j].2.2) := by
  obtain ⟨a', cap', e, _⟩ := h.form
  obtain ⟨_, rfl, _⟩ : some (⟨g, 0, none⟩ : Addr) = a' ∧ n = L.length ∧ cap = cap' := by simpa using e
  have h2 := jcells_at L j hj
  exact ⟨(World.ownsRow.cellAt h.1 (j * 2) (by omega)).trans h2.1, (World.ownsRow.cellAt h.1 (j * 2 + 1) (by omega)).trans h2.2⟩
theorem GathJ.some {w : World} {B n cap : Nat} {a : Option Addr} {L : List (ItemL × Option Addr × Nat)} (h : GathJ w B (.slice a n cap) L) (h0 : 0 < L.length) : ∃ g, a = Option.some ⟨g, 0, none⟩ := by
  obtain ⟨a', cap', e, _, _, hf⟩ := h.form
  obtain ⟨rfl, _, _⟩ : a = a' ∧ n = L.length ∧ cap = cap' := by simpa using e
  obtain ⟨g, _, _, e, _⟩ := hf (fun e => by rw [e] at h0; exact absurd h0 (Nat.lt_irrefl 0))
  exact ⟨g, e⟩
theorem few_snoc {L : List (ItemL × Option Addr × Nat)} {p : ItemL × Option Addr × Nat} (h : FewI 5 (L.map (·.1))) (hp : p ∈ L) : FewI 6 ((L ++ [p]).map (·.1)) := by
  rw [List.map_append]
  exact h.snoc (h.2 _ (List.mem_map.2 ⟨p, hp, rfl⟩))
theorem StampsP.few {l : List ItemL} (h : StampsP l) : FewI 5 l := ⟨h.1, fun x hx => by
  obtain ⟨j, hj, rfl⟩ := List.mem_iff_getElem.1 hx
  exact stamp_few (h.2 j hj)⟩

set_option maxHeartbeats 6400000 in
theorem l6Window_any (R n c p : Nat) (ab : Option Addr) (x : Int) (w : World) (hr : Rd w R ab n c p) (hp : p ≤ 70000) :
    Calls Tryz.prog 41 #[.pointer (some ⟨R, 0, none⟩), .int .i64 x] w fun e w' => (∃ v L p', e = .returned v ∧ GathJ w' w.heap.size v L ∧ FewI 6 (L.map (·.1)) ∧ Rd w' R ab n c p' ∧ p' ≤ p + 300) ∧ But R w w' := by
  have hR := hr.lt
  go_enter Tryz.func41, Tryz.ntmps41
  go_wp2_with fail
  refine (l6Story_any R n c p ab 8 w hr (by omega) (by omega) (by omega)).mono ?_
  rintro e w1 ⟨⟨sv, SL, p1, rfl, hs1, hsl, hr1, hp1⟩, hb1⟩
  obtain ⟨sa, sc, rfl⟩ : ∃ a c, sv = .slice (some ⟨a, 0, none⟩) 8 c := by
    obtain ⟨g, cap, e, _⟩ := hs1.1.form (by omega)
    exact ⟨g, cap, by rw [e, hsl]⟩
  go_wp2_with fail
  refine (pick_any R n c p1 ab 6 w1 hr1 (by omega) (by omega) (by omega)).mono ?_
  rintro e w2 ⟨⟨y, rfl, hy0, hy1⟩, hr2, hb2⟩
  have hs2 := hs1.but hb2 hR
  have hB2 : But R w w2 := hb1.trans hb2
  clear hs1 hb1 hb2 hr1 hr
  obtain ⟨N, rfl⟩ := Int.eq_ofNat_of_zero_le hy0
  go_wp2_with fail
  go_loopw [6, 8, 9] (fun out kk i wr => ∃ (k q p' : Nat) (L : List (ItemL × Option Addr × Nat)), k ≤ N ∧ i = .int .i64 k ∧ q ≤ 7 ∧ kk = .int .i64 q ∧ GathJ wr w.heap.size out L ∧ Hid (StampsP (L.map (·.1))) ∧ GathV wr w.heap.size (.slice (some ⟨sa, 0, none⟩) 8 sc) SL ∧ Rd wr R ab n c p' ∧ p' ≤ p + 9 + 2 * k ∧ But R w wr) (fun _ _ i _ => N - (intOf i).toNat)
  case atStart => exact ⟨0, 0, p1 + 1, [], Nat.zero_le _, rfl, by omega, rfl, gathJ_none _ _, ⟨by simp, fun j hj => absurd hj (Nat.not_lt_zero j)⟩, hs2, hr2, by omega, hB2⟩
  case round =>
    obtain ⟨k, q, p', L, hk, rfl, hq, rfl, hg, HSP, hs, hrr, hp', hb⟩ := hrel
    clear hs2 hr2 hB2
    have hzr := hb.size
    obtain ⟨oa, oc, rfl, hoc, hrow, hform⟩ := hg.form
    have hLl : L.length ≤ 5 := by have := HSP.out.1; rwa [List.length_map] at this
    by_cases hlt : k < N
    · obtain ⟨gq, cq, c0, hF, hgq, hsa⟩ := hs.at (q := q) hsl.symm (by omega)
      have k0 : (0 : Int) ≤ (q : Int) := by omega
      have k1 : (q : Int) < 8 := by omega
      go_wp2_with fail
      have SW : (wr.drew).cell? ⟨sa, q, none⟩ = some (.slice (some ⟨gq, 0, none⟩) 4 cq) := c0
      have hbd : Below wr.heap.size wr wr.drew := (Below.refl _ _).drew
      refine wp_region_held_drew (S := fun u => u.cell? ⟨sa, q, none⟩ = some (.slice (some ⟨gq, 0, none⟩) 4 cq)) (by kernel_rfl) SW (fun _ => ?_)
      refine wpAnyH_take (i := 0) (v := .slice oa L.length oc) rfl (by kernel_rfl) (by kernel_rfl) (by kernel_rfl) (fun _ _ _ h => h) (Or.inl ⟨by rfl, ?_⟩) SW ?_
      · rintro u q1
        go_simp
      simp only [Act.put, List.setIfInBounds_toArray]
      refine wpAnyH_take (i := 1) (v := .pointer (some ⟨R, 0, none⟩)) rfl (by kernel_rfl) (by kernel_rfl) (by kernel_rfl) (fun _ _ _ h => h) (Or.inl ⟨by rfl, ?_⟩) SW ?_
      · rintro u q1
        go_simp
      simp only [Act.put]
      refine wpAnyH_take (i := 3) (v := .slice (some ⟨sa, 0, none⟩) 8 sc) rfl (by kernel_rfl) (by kernel_rfl) (by kernel_rfl) (fun _ _ _ h => h) (Or.inl ⟨by rfl, ?_⟩) SW ?_
      · rintro u q1
        go_simp
      simp only [Act.put]
      refine wpAnyH_take (i := 4) (v := .int .i64 q) rfl (by kernel_rfl) (by kernel_rfl) (by kernel_rfl) (fun _ _ _ h => h) (Or.inl ⟨by rfl, ?_⟩) SW ?_
      · rintro u q1
        go_simp
      simp only [Act.put]
      refine wpAnyH_take (i := 5) (v := .pointer (some ⟨sa, q, none⟩)) rfl (by kernel_rfl) (by kernel_rfl) (by kernel_rfl) (fun _ _ _ h => h) (Or.inl ⟨by rfl, ?_⟩) SW ?_
      · rintro u q1
        go_simp
      simp only [Act.put]
      refine wpAnyH_take (i := 6) (v := .slice (some ⟨gq, 0, none⟩) 4 cq) rfl (by kernel_rfl) (by kernel_rfl) (by kernel_rfl) (fun _ _ _ h => h) (Or.inl ⟨by rfl, ?_⟩) SW ?_
      · rintro u q1
        go_simp
      simp only [Act.put]
      refine wpAnyH_take (i := 7) (v := .int .i64 x) rfl (by kernel_rfl) (by kernel_rfl) (by kernel_rfl) (fun _ _ _ h => h) (Or.inl ⟨by rfl, ?_⟩) SW ?_
      · rintro u q1
        go_simp
      simp only [Act.put]
      refine wpAnyH_ready (rs := [2]) (by kernel_rfl) (by simp) ?_
      refine AllReadyH.cons rfl (fun K hK => ?_) AllReadyH.nil
      rw [if_pos (by rfl)]
      go_simp
      refine (pick_any R n c p' ab 9 _ (hrr.below hbd) (by omega) (by omega) (by omega)).mono ?_
      rintro e w3 ⟨⟨y, rfl, hy0, hy1'⟩, hr3, hb3⟩
      have hb3' : But R wr w3 := (But.of_below hbd).trans hb3
      have hB3 : But R w w3 := hb.trans hb3'
      have S3 : w3.cell? ⟨sa, q, none⟩ = some (.slice (some ⟨gq, 0, none⟩) 4 cq) := (hb3'.cell (b := sa) q (block_lt_of_cell c0) (by omega)).trans c0
      have hF3 := hF.but hb3' (by omega)
      have hg3 := hg.but hb3' hR
      have hs3 := hs.but hb3' hR
      refine hK.out _ _ S3 (fun _ => ?_)
      clear hK K SW hb3 hb3' hbd hrr hg hs hF
      refine wpAnyH_ready (rs := [8]) (by kernel_rfl) (by simp) ?_
      refine AllReadyH.cons rfl (fun K hK => ?_) AllReadyH.nil
      rw [if_pos (by rfl)]
      go_simp
      refine (l6Vec_any gq cq x 1000 w3 hF3).mono ?_
      rintro e w4 ⟨⟨mv, m, rfl, hm4, hml⟩, b4⟩
      obtain ⟨ma, mc, rfl, hms⟩ := hm4.g.slB
      have hB4 : But R w w4 := hB3.trans (But.of_below b4)
      have S4 : w4.cell? ⟨sa, q, none⟩ = some (.slice (some ⟨gq, 0, none⟩) 4 cq) := cell_on b4 (block_lt_of_cell S3) S3
      have hg4 := hg3.keep b4
      have hs4 := hs3.keep b4
      have hr4 := hr3.below b4
      have hz4 := hB4.size
      have hms1 : ∀ i, (hi : i < m.length) → m[i].1.size ≤ 2000 := fun i hi => hm4.size _ (List.getElem_mem hi)
      have hfm : FitM m := ⟨by unfold maxLen; omega, fun i hi => by have := hms1 i hi; unfold maxLen; omega⟩
      refine hK.out _ _ S4 (fun _ => ?_)
      clear hK K S3 b4 hg3 hs3 hr3 hF3 hm4
      refine wpAnyH_take (i := 9) (v := .agg #[.int .i64 y, .slice ma m.length mc]) rfl (by kernel_rfl) (by kernel_rfl) (by kernel_rfl) (fun _ _ _ h => h) (Or.inl ⟨by rfl, ?_⟩) S4 ?_
      · rintro u q1
        go_simp
      simp only [Act.put, List.setIfInBounds_toArray]
      refine wpAnyH_ready (rs := [10]) (by kernel_rfl) (by simp) ?_
      refine AllReadyH.cons rfl (fun K hK => ?_) AllReadyH.nil
      rw [if_pos (by rfl)]
      go_simp
      have hcall := specPut_any oa oc (L.map (·.1)) y ma mc m w4 (HSP.out.fit) (hg4.rowOf) hfm hms.row
      rw [List.length_map] at hcall
      refine hcall.mono ?_
      rintro e w5 ⟨⟨v5, r5, cd, rfl, hP, hg5⟩, b5⟩
      obtain ⟨L5, hJ5, hmap⟩ := hg5.toJ
      obtain ⟨a5, c5, rfl, hc5, _, _⟩ := hJ5.form
      have HS5 : Hid (StampsP (L5.map (·.1))) := by rw [hmap]; exact isP_stamps hP
      have hB5 : But R w w5 := hB4.trans (But.of_below b5)
      have S5 : w5.cell? ⟨sa, q, none⟩ = some (.slice (some ⟨gq, 0, none⟩) 4 cq) := cell_on b5 (block_lt_of_cell S4) S4
      have hg5' : GathJ w5 w.heap.size (.slice a5 L5.length c5) L5 := hJ5.lower hz4
      have hg4' : GathJ w5 w.heap.size (.slice oa L.length oc) L := hg4.keep b5
      have hs5 := hs4.keep b5
      have hr5 := hr4.below b5
      refine hK.out _ _ S5 (fun _ => ?_)
      clear hK K S4 b5 hg4 hs4 hr4 hcall hP hg5 hJ5 hmap hB4
      refine wpAnyH_take (i := 11) (v := .tuple #[.slice a5 L5.length c5, .int .i64 cd]) rfl (by kernel_rfl) (by kernel_rfl) (by kernel_rfl) (fun _ _ _ h => h) (Or.inl ⟨by rfl, ?_⟩) S5 ?_
      · rintro u q1
        go_simp
      simp only [Act.put, List.setIfInBounds_toArray]
      refine wpAnyH_take (i := 12) (v := .slice a5 L5.length c5) rfl (by kernel_rfl) (by kernel_rfl) (by kernel_rfl) (fun _ _ _ h => h) (Or.inl ⟨by rfl, ?_⟩) S5 ?_
      · rintro u q1
        go_simp
      simp only [Act.put]
      refine wpAnyH_take (i := 13) (v := .int .i64 cd) rfl (by kernel_rfl) (by kernel_rfl) (by kernel_rfl) (fun _ _ _ h => h) (Or.inl ⟨by rfl, ?_⟩) S5 ?_
      · rintro u q1
        go_simp
      simp only [Act.put]
      refine wpAnyH_ready (rs := [14]) (by kernel_rfl) (by simp) ?_
      refine AllReadyH.cons rfl (fun K hK => ?_) AllReadyH.nil
      rw [if_pos (by rfl)]
      go_simp
      refine hK.out _ _ S5 (fun _ => ?_)
      clear hK K
      refine wpAnyH_ready (rs := [15]) (by kernel_rfl) (by simp) ?_
      refine AllReadyH.cons rfl (fun K hK => ?_) AllReadyH.nil
      rw [if_pos (by rfl)]
      go_simp
      refine hK.out _ _ S5 (fun _ => ?_)
      clear hK K
      refine wpAnyH_done (by kernel_rfl) ?_ _
      clear S5 hms hms1 hfm hrow hform
      by_cases hcd : cd = 0
      · have hc' : (cd == 0) = true := by rw [beq_iff_eq]; exact hcd
        clear hcd
        go_wp2_with fail
        refine (pick_any R n c (p' + 1) ab 2 w5 hr5 (by omega) (by omega) (by omega)).mono ?_
        rintro e w6 ⟨⟨z, rfl, hz0, hz1⟩, hr6, hb6⟩
        obtain ⟨z, rfl⟩ := Int.eq_ofNat_of_zero_le hz0
        have hB6 : But R w w6 := hB5.trans hb6
        have hg6 := hg5'.but hb6 hR
        have hs6 := hs5.but hb6 hR
        clear hg5' hg4' hs5 hr5 hb6 hB5
        by_cases h7 : 7 < q + 1 + z
        · have h7' : decide ((7 : Int) < (q : Int) + 1 + (z : Int)) = true := by simp; omega
          go_wp2_with fail
          exact ⟨⟨k + 1, 7, _, L5, by omega, by go_num, by omega, rfl, hg6, HS5, hs6, hr6, by omega, hB6⟩, by simp [intOf]; omega⟩
        · have h7' : decide ((7 : Int) < (q : Int) + 1 + (z : Int)) = false := decide_eq_false (by omega)
          go_wp2_with fail
          exact ⟨⟨k + 1, q + 1 + z, _, L5, by omega, by go_num, by omega, by go_num, hg6, HS5, hs6, hr6, by omega, hB6⟩, by simp [intOf]; omega⟩
      · have hc' : (cd == 0) = false := by rw [beq_eq_false_iff_ne]; exact hcd
        clear hcd
        go_wp2_with fail
        refine (pick_any R n c (p' + 1) ab 2 w5 hr5 (by omega) (by omega) (by omega)).mono ?_
        rintro e w6 ⟨⟨z, rfl, hz0, hz1⟩, hr6, hb6⟩
        obtain ⟨z, rfl⟩ := Int.eq_ofNat_of_zero_le hz0
        have hB6 : But R w w6 := hB5.trans hb6
        have hg6 := hg4'.but hb6 hR
        have hs6 := hs5.but hb6 hR
        clear hg5' hg4' hs5 hr5 hb6 hB5
        by_cases h7 : 7 < q + 1 + z
        · have h7' : decide ((7 : Int) < (q : Int) + 1 + (z : Int)) = true := by simp; omega
          go_wp2_with fail
          exact ⟨⟨k + 1, 7, _, L, by omega, by go_num, by omega, rfl, hg6, HSP, hs6, hr6, by omega, hB6⟩, by simp [intOf]; omega⟩
        · have h7' : decide ((7 : Int) < (q : Int) + 1 + (z : Int)) = false := decide_eq_false (by omega)
          go_wp2_with fail
          exact ⟨⟨k + 1, q + 1 + z, _, L, by omega, by go_num, by omega, by go_num, hg6, HSP, hs6, hr6, by omega, hB6⟩, by simp [intOf]; omega⟩
    · have hfew : FewI 5 (L.map (·.1)) := HSP.out.few
      clear hs hrow HSP hform
      go_wp2_with fail
      refine (pick_any R n c p' ab 20 wr hrr (by omega) (by omega) (by omega)).mono ?_
      rintro e w7 ⟨⟨y, rfl, hy0, hy1'⟩, hr7, hb7⟩
      have hB7 : But R w w7 := hb.trans hb7
      have hg7 := hg.but hb7 hR
      clear hrr hb7 hg hb
      by_cases hy : y = 0
      · subst hy
        by_cases h0 : 0 < L.length
        · obtain ⟨g, rfl⟩ := hg7.some h0
          go_wp2_with fail
          refine (pick_any R n c (p' + 1) ab L.length w7 hr7 (by omega) (by omega) (by omega)).mono ?_
          rintro e w8 ⟨⟨j, rfl, hj0, hj1⟩, hr8, hb8⟩
          obtain ⟨j, rfl⟩ := Int.eq_ofNat_of_zero_le hj0
          have hB8 : But R w w8 := hB7.trans hb8
          have hg8 := hg7.but hb8 hR
          have hj : j < L.length := by omega
          have e0 := (hg8.cells hj).1
          have e1 := (hg8.cells hj).2
          have k0 : (0 : Int) ≤ (j : Int) := by omega
          have k1 : (j : Int) < (L.length : Int) := by omega
          generalize L[j] = it at *
          obtain ⟨⟨t1, t2⟩, t3, t4⟩ := it
          simp only at e0 e1
          clear hr7 hg7 hb8 hB7
          go_wp2_with fail
          have hbx : Below w8.heap.size w8 (w8.alloc (.cells #[.int .i64 t1, .slice t3 t2.length t4] 40)) := (Below.refl _ _).alloc (Nat.le_refl _) _
          have d0 := box0 w8 (.int .i64 t1) (.slice t3 t2.length t4) 40
          have d1 := box1 w8 (.int .i64 t1) (.slice t3 t2.length t4) 40
          have f1 : (w8.alloc (.cells #[.int .i64 t1, .slice t3 t2.length t4] 40)).frozen? ⟨w8.heap.size, 1, none⟩ = false := by simp [go_sem]
          have hza : (w8.alloc (.cells #[.int .i64 t1, .slice t3 t2.length t4] 40)).heap.size = w8.heap.size + 1 := by simp
          have hRd := hr8.below hbx
          generalize (w8.alloc (.cells #[.int .i64 t1, .slice t3 t2.length t4] 40)) = WA at *
          refine (l6Marks_mks R n c (p' + 1 + 1) ab WA hRd (by omega)).mono ?_
          rintro e wm ⟨⟨mv, m, p3, rfl, hm, hml, hrm, hpm⟩, hbm⟩
          obtain ⟨ma, mc, rfl, hms⟩ := hm.g.slB
          have hgl : g < w8.heap.size := block_lt_of_cell e0
          have hbtR : R < w8.heap.size := hr8.lt
          have hzm := hbm.size
          have U1 : ButU R w8.heap.size w8 wm := (butU_of hbx).trans (hbm.upto (by omega))
          have hBm : But R w wm := (hB8.trans (But.of_below hbx)).trans hbm
          have x0 := (hbm.cell (b := w8.heap.size) 0 (by omega) (by omega)).trans d0
          have x1 := (hbm.cell (b := w8.heap.size) 1 (by omega) (by omega)).trans d1
          have xf : wm.frozen? ⟨w8.heap.size, 1, none⟩ = false := (World.frozen?_of_block (hbm.block w8.heap.size (by omega) (by omega))).trans f1
          have hfew2 : m.length ≤ 40 ∧ ∀ y ∈ m, y.1.size ≤ 2000 := ⟨by omega, hm.size⟩
          have hgB : w.heap.size ≤ g := owns_from hg8.1 g rfl
          have hz8 := hB8.size
          have hgm : GathJ wm w.heap.size (.slice (some ⟨g, 0, none⟩) L.length oc) L := hg8.but U1.but hR
          obtain ⟨u0, hu0⟩ : ∃ u, wm.cell? ⟨g, j * 2, none⟩ = some u := ⟨_, (hgm.cells hj).1⟩
          obtain ⟨u1, hu1⟩ : ∃ u, wm.cell? ⟨g, j * 2 + 1, none⟩ = some u := ⟨_, (hgm.cells hj).2⟩
          have fr0 := World.ownsRow.frozenAt hgm.1 (j * 2)
          have fr1 := World.ownsRow.frozenAt hgm.1 (j * 2 + 1)
          have hgA : GathJ (wm.setCell ⟨w8.heap.size, 1, none⟩ (.slice ma m.length mc)) w.heap.size (.slice (some ⟨g, 0, none⟩) L.length oc) L := hg8.but (U1.trans (((But.refl w8.heap.size wm).setCell 1 (.slice ma m.length mc)).out (Nat.le_refl _) (by omega))).but hR
          have hpA : SlB (wm.setCell ⟨w8.heap.size, 1, none⟩ (.slice ma m.length mc)) w.heap.size ma mc m := ⟨hms.1, hms.2.imp id fun ⟨q, e, hq, ho⟩ => ⟨q, e, by omega, ho.setOther (by omega) _ _⟩⟩
          have hg5 := hgA.set (k := j) ((t1, m), ma, mc) hpA
          have hB5 : But R w (((wm.setCell ⟨w8.heap.size, 1, none⟩ (.slice ma m.length mc)).setCell ⟨g, j * 2, none⟩ (.int .i64 t1)).setCell ⟨g, j * 2 + 1, none⟩ (.slice ma m.length mc)) := ((hBm.setOut (by omega) _ _).setOut hgB _ _).setOut hgB _ _
          have hr5 : Rd (((wm.setCell ⟨w8.heap.size, 1, none⟩ (.slice ma m.length mc)).setCell ⟨g, j * 2, none⟩ (.int .i64 t1)).setCell ⟨g, j * 2 + 1, none⟩ (.slice ma m.length mc)) R ab n c p3 := hrm.same fun q hq => by
            rw [Below.heap_setCell _ _ _ _ (by simp only; omega), Below.heap_setCell _ _ _ _ (by simp only; omega), Below.heap_setCell _ _ _ _ (by simp only; omega)]
          have hf5 : FewI 5 ((L.set j ((t1, m), ma, mc)).map (·.1)) := by
            rw [List.map_set]
            exact hfew.set hfew2
          obtain ⟨L5, hL5, hg5, hf5⟩ : ∃ L5 : List (ItemL × Option Addr × Nat), L5.length = L.length ∧ GathJ (((wm.setCell ⟨w8.heap.size, 1, none⟩ (.slice ma m.length mc)).setCell ⟨g, j * 2, none⟩ (.int .i64 t1)).setCell ⟨g, j * 2 + 1, none⟩ (.slice ma m.length mc)) w.heap.size (.slice (some ⟨g, 0, none⟩) L.length oc) L5 ∧ FewI 5 (L5.map (·.1)) := ⟨_, by rw [List.length_set], hg5, hf5⟩
          have HX : Hid _ := And.intro hg5 (And.intro hB5 hr5)
          have hne1 : g ≠ w8.heap.size := by omega
          have hL51 : L5.length ≤ L.length := by omega
          have hL52 : L.length ≤ L5.length := by omega
          clear hg8 hr8 hbx hm hms hrm hbm hRd U1 hBm hgm hgA hpA hg5 hB5 hr5 hfew hfew2 d0 d1 f1 e0 e1 hB8 hL5
          go_wp2_with fail
          obtain ⟨hg5, hB5, hr5⟩ := HX.out
          generalize (((wm.setCell ⟨w8.heap.size, 1, none⟩ (.slice ma m.length mc)).setCell ⟨g, j * 2, none⟩ (.int .i64 t1)).setCell ⟨g, j * 2 + 1, none⟩ (.slice ma m.length mc)) = W5 at *
          refine (pick_any R n c (p3) ab 24 _ hr5 (by omega) (by omega) (by omega)).mono ?_
          rintro e w9 ⟨⟨z, rfl, hz0, hz1⟩, hr9, hb9⟩
          have hB9 : But R w w9 := hB5.trans hb9
          have hg9 := hg5.but hb9 hR
          clear hr5 hg5 hb9 hB5
          by_cases hz : z = 0
          · subst hz
            have e0 := (hg9.cells (j := L.length - 1) (by omega)).1
            have e1 := (hg9.cells (j := L.length - 1) (by omega)).2
            have hsl := hg9.2 _ (List.getElem_mem (by omega : L.length - 1 < L5.length))
            have hfw := few_snoc hf5 (List.getElem_mem (by omega : L.length - 1 < L5.length))
            generalize L5[L.length - 1]'(by omega) = it at *
            obtain ⟨⟨t1, t2⟩, t3, t4⟩ := it
            simp only at e0 e1 hsl
            have hkm : ((L.length : Int) - 1) = ((L.length - 1 : Nat) : Int) := by omega
            have k3 : (0 : Int) ≤ ((L.length - 1 : Nat) : Int) := by omega
            have hbx : Below w9.heap.size w9 (w9.alloc (.cells #[.int .i64 t1, .slice t3 t2.length t4] 40)) := (Below.refl _ _).alloc (Nat.le_refl _) _
            have hB10 : But R w (w9.alloc (.cells #[.int .i64 t1, .slice t3 t2.length t4] 40)) := hB9.trans (But.of_below hbx)
            have hz9 := hB10.size
            go_wp2_with (at_builtin; refine wpList_append_itemJ rfl _ _ rfl w.heap.size _ L5 rfl (hg9.keep hbx) hz9 w9.heap.size ((t1, t2), t3, t4) rfl (box0 _ _ _ _) (box1 _ _ _ _) (hsl.keep hbx) (by omega) ?_; intro v' w10 hg10 hgr)
            go_ret
            exact ⟨⟨_, _, _, rfl, hg10, hfw, (hr9.below hbx).grown hgr (fun q e => by have := owns_from (hg9.keep hbx).1 q e; omega), by omega⟩, hB10.grown hgr (owns_from (hg9.keep hbx).1)⟩
          · have hz' : (z == 0) = false := by rw [beq_eq_false_iff_ne]; exact hz
            have HF : Hid (FewI 6 (L5.map (·.1))) := hf5.mono (by omega)
            go_wp2_with fail
            go_ret
            exact ⟨⟨_, L5, _, rfl, hg9, HF.out, hr9, by omega⟩, hB9⟩
        · have h0' : decide ((0 : Int) < (L.length : Int)) = false := decide_eq_false (by omega)
          go_wp2_with fail
          refine (pick_any R n c (p' + 1) ab 24 _ hr7 (by omega) (by omega) (by omega)).mono ?_
          rintro e w9 ⟨⟨z, rfl, hz0, hz1⟩, hr9, hb9⟩
          have hB9 : But R w w9 := hB7.trans hb9
          have hg9 := hg7.but hb9 hR
          clear hr7 hg7 hb9 hB7
          by_cases hz : z = 0
          · subst hz
            have h1' : decide ((0 : Int) < ((L).length : Int)) = false := decide_eq_false (by omega)
            have HF : Hid (FewI 6 ((L).map (·.1))) := ⟨by have := hfew.1; omega, hfew.2⟩
            go_wp2_with fail
            go_ret
            exact ⟨⟨_, L, _, rfl, hg9, HF.out, hr9, by omega⟩, hB9⟩
          · have hz' : (z == 0) = false := by rw [beq_eq_false_iff_ne]; exact hz
            have HF : Hid (FewI 6 ((L).map (·.1))) := ⟨by have := hfew.1; omega, hfew.2⟩
            go_wp2_with fail
            go_ret
            exact ⟨⟨_, L, _, rfl, hg9, HF.out, hr9, by omega⟩, hB9⟩
      · have hy' : (y == 0) = false := by rw [beq_eq_false_iff_ne]; exact hy
        go_wp2_with fail
        refine (pick_any R n c (p' + 1) ab 24 _ hr7 (by omega) (by omega) (by omega)).mono ?_
        rintro e w9 ⟨⟨z, rfl, hz0, hz1⟩, hr9, hb9⟩
        have hB9 : But R w w9 := hB7.trans hb9
        have hg9 := hg7.but hb9 hR
        clear hr7 hg7 hb9 hB7
        by_cases hz : z = 0
        · subst hz
          by_cases h1 : 0 < (L).length
          · obtain ⟨g1, rfl⟩ := hg9.some h1
            have e0 := (hg9.cells (j := (L).length - 1) (by omega)).1
            have e1 := (hg9.cells (j := (L).length - 1) (by omega)).2
            have hsl := hg9.2 _ (List.getElem_mem (by omega : (L).length - 1 < (L).length))
            have hfw := few_snoc hfew (List.getElem_mem (by omega : (L).length - 1 < (L).length))
            generalize (L)[(L).length - 1]'(by omega) = it at *
            obtain ⟨⟨t1, t2⟩, t3, t4⟩ := it
            simp only at e0 e1 hsl
            have hkm : (((L).length : Int) - 1) = (((L).length - 1 : Nat) : Int) := by omega
            have k3 : (0 : Int) ≤ (((L).length - 1 : Nat) : Int) := by omega
            have hbx : Below w9.heap.size w9 (w9.alloc (.cells #[.int .i64 t1, .slice t3 t2.length t4] 40)) := (Below.refl _ _).alloc (Nat.le_refl _) _
            have hB10 : But R w (w9.alloc (.cells #[.int .i64 t1, .slice t3 t2.length t4] 40)) := hB9.trans (But.of_below hbx)
            have hz9 := hB10.size
            go_wp2_with (at_builtin; refine wpList_append_itemJ rfl _ _ rfl w.heap.size _ (L) rfl (hg9.keep hbx) hz9 w9.heap.size ((t1, t2), t3, t4) rfl (box0 _ _ _ _) (box1 _ _ _ _) (hsl.keep hbx) (by omega) ?_; intro v' w10 hg10 hgr)
            go_ret
            exact ⟨⟨_, _, _, rfl, hg10, hfw, (hr9.below hbx).grown hgr (fun q e => by have := owns_from (hg9.keep hbx).1 q e; omega), by omega⟩, hB10.grown hgr (owns_from (hg9.keep hbx).1)⟩
          · have h1' : decide ((0 : Int) < ((L).length : Int)) = false := decide_eq_false (by omega)
            have HF : Hid (FewI 6 ((L).map (·.1))) := ⟨by have := hfew.1; omega, hfew.2⟩
            go_wp2_with fail
            go_ret
            exact ⟨⟨_, L, _, rfl, hg9, HF.out, hr9, by omega⟩, hB9⟩
        · have hz' : (z == 0) = false := by rw [beq_eq_false_iff_ne]; exact hz
          have HF : Hid (FewI 6 ((L).map (·.1))) := ⟨by have := hfew.1; omega, hfew.2⟩
          go_wp2_with fail
          go_ret
          exact ⟨⟨_, L, _, rfl, hg9, HF.out, hr9, by omega⟩, hB9⟩

end Go.Proofs.YtpfhegengmlkmaaGreat
