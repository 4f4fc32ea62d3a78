/- Walks: l1Many, DrawStampRead. -/
import Derived.Test.YtpfhegengmlkmaaDoorDraw4
import Derived.Test.YtpfhegengmlkmaaDoorTxS
import Derived.Test.YtpfhegengmlkmaaDoorBackM
namespace Go.Proofs.YtpfhegengmlkmaaDoor
open Go.RowKit Go.BigFrame
set_option maxRecDepth 100000

set_option maxHeartbeats 800000 in
theorem l1Many_any (s : ByteArray) (n : Nat) (w : World) (hs : s.size ≤ 1000) (hn : n ≤ 1000) :
    Calls Tryd.prog 21 #[.string s, .int .i64 (n : Int)] w fun e w' => (∃ t : ByteArray, e = .returned (.string t) ∧ t.size ≤ 1000000) ∧ w' = w := by
  have hmul : s.size * n ≤ 1000000 := Nat.le_trans (Nat.mul_le_mul hs hn) (by decide)
  go_enter Tryd.func21, Tryd.ntmps21
  go_wp2_with fail
  go_loop [0, 1, 5] (fun sv nv ov => ∃ (q : Nat) (x o : ByteArray), sv = .string x ∧ nv = .int .i64 q ∧ ov = .string o ∧ q ≤ 1000 ∧ x.size ≤ 2000000 ∧ o.size + x.size * q ≤ 1000000) (fun _ nv _ => (intOf nv).toNat)
  case atStart => exact ⟨n, s, _, rfl, rfl, rfl, hn, by omega, by show 0 + s.size * n ≤ _; omega⟩
  case round =>
    obtain ⟨q, x, o, rfl, rfl, rfl, hq1, hx, hP⟩ := hrel
    have ho : o.size ≤ 1000000 := by omega
    have HP : Hid (o.size + x.size * q ≤ 1000000) := hP
    by_cases hq : 0 < q
    · have hx1 : x.size ≤ 1000000 := by
        have : x.size * 1 ≤ x.size * q := Nat.mul_le_mul_left _ hq
        omega
      have e : x.size * q = x.size * (2 * (q / 2)) + x.size * (q % 2) := by rw [← Nat.mul_add, Nat.div_add_mod]
      have e2 : x.size * (2 * (q / 2)) = (x.size + x.size) * (q / 2) := by rw [← Nat.mul_assoc, Nat.mul_comm x.size 2, Nat.two_mul]
      have HE : Hid (x.size * q = (x.size + x.size) * (q / 2) + x.size * (q % 2)) := by rw [Hid, e, e2]
      clear e e2 hP hmul
      have hxx : (x ++ x).size = x.size + x.size := ByteArray.size_append
      have hox : (o ++ x).size = o.size + x.size := ByteArray.size_append
      rcases Nat.mod_two_eq_zero_or_one q with hm | hm
      · have hm' : ((q : Int) % 2 == 1) = false := by rw [beq_eq_false_iff_ne]; omega
        go_wp2_with fail
        refine ⟨⟨q / 2, x ++ x, o, rfl, by congr 1, rfl, by omega, by omega, ?_⟩, by simp [intOf]; omega⟩
        have h1 := HP.out
        have h2 := HE.out
        rw [hm, Nat.mul_zero, Nat.add_zero] at h2
        rw [hxx]
        omega
      · have hm' : ((q : Int) % 2 == 1) = true := by rw [beq_iff_eq]; omega
        go_wp2_with fail
        refine ⟨⟨q / 2, x ++ x, o ++ x, rfl, by congr 1, rfl, by omega, by omega, ?_⟩, by simp [intOf]; omega⟩
        have h1 := HP.out
        have h2 := HE.out
        rw [hm, Nat.mul_one] at h2
        rw [hxx, hox]
        omega
    · clear hP hmul
      go_wp2_with fail
      go_ret
      exact ⟨⟨o, rfl, ho⟩, rfl⟩

set_option maxHeartbeats 1600000 in
theorem drawRead_any (ab : Option Addr) (n c : Nat) (w : World) (h : Bytes w ab n c) :
    Calls Tryd.prog 10 #[.slice ab n c] w fun e w' => (∃ t : ByteArray, e = .returned (.string t) ∧ t.size ≤ 1048576) ∧ Below w.heap.size w w' := by
  go_enter Tryd.func10, Tryd.ntmps10
  go_wp2_with fail
  refine (l1Open_any ab n c _ h).mono ?_
  rintro e w1 ⟨⟨m, rfl, hr1⟩, hb1⟩
  have hR := hr1.lt
  go_wp2_with fail
  refine (l6Marks_mks _ m c 0 ab _ hr1 (by omega)).mono ?_
  rintro e w2 ⟨⟨va, la, p2, rfl, hm2, hl2, hr2, hp2⟩, hb2⟩
  obtain ⟨aa, ca, rfl, hra⟩ := hm2.g.shape
  have hsz := hm2.size
  go_wp2_with fail
  refine (specText_any aa ca la _ (by unfold maxLen; omega) hra (fun j hj => by have := hsz _ (List.getElem_mem hj); unfold maxLen; omega)).mono ?_
  rintro e w3 ⟨⟨t, rfl, ht⟩, b3⟩
  have htz := isTx_size ht
  have hz2 := hb2.size
  have hr3 := hr2.below b3
  have B3 : Below w.heap.size w w3 := hb1.trans ((hb2.trans (But.of_below b3)).below (Nat.le_refl _) (by omega))
  have hR3 := hr3.lt
  clear hr1 hr2 hm2 h hb1 hb2 b3 hra hsz ht
  go_wp2_with fail
  refine (pick_any _ m c p2 ab _ _ hr3 (by omega) (by omega) (by omega)).mono ?_
  rintro e w4 ⟨⟨x, rfl, hx0, hx1⟩, hr4, hb4⟩
  have B4 : Below w.heap.size w w4 := B3.trans (hb4.below (Nat.le_refl _) B3.size)
  clear hr3 hb4 B3
  by_cases hx : x = 0
  · subst hx
    by_cases ht0 : 0 < t.size
    · have ht0' : decide ((0 : Int) < (t.size : Int)) = true := by simp; omega
      go_wp2_with fail
      refine (pick_any _ m c _ ab _ _ hr4 (by omega) (by omega) (by omega)).mono ?_
      rintro e w5 ⟨⟨y, rfl, hy0, hy1⟩, hr5, hb5⟩
      obtain ⟨k, rfl⟩ := Int.eq_ofNat_of_zero_le hy0
      have hk : k < t.size := by omega
      have B5 : Below w.heap.size w w5 := B4.trans (hb5.below (Nat.le_refl _) B4.size)
      clear hr4 hb5 B4
      go_wp2_with fail
      have hpre : (t.extract 0 k).size = k := by rw [ByteArray.size_extract]; omega
      have hsuf : (t.extract k t.size).size = t.size - k := by rw [ByteArray.size_extract]; omega
      refine wp_region_held_drew (S := fun _ => True) (by kernel_rfl) trivial (fun _ => ?_)
      refine wpAnyH_take (i := 0) (v := .string t) rfl (by kernel_rfl) (by kernel_rfl) (by kernel_rfl) (fun _ _ _ h => h) (Or.inl ⟨by rfl, ?_⟩) trivial ?_
      · rintro u -
        go_simp
      simp only [Act.put, List.setIfInBounds_toArray]
      refine wpAnyH_take (i := 1) (v := .int .i64 (k : Int)) rfl (by kernel_rfl) (by kernel_rfl) (by kernel_rfl) (fun _ _ _ h => h) (Or.inl ⟨by rfl, ?_⟩) trivial ?_
      · rintro u -
        go_simp
      simp only [Act.put]
      refine wpAnyH_take (i := 2) (v := .string (t.extract 0 k)) rfl (by kernel_rfl) (by kernel_rfl) (by kernel_rfl) (fun _ _ _ h => h) (Or.inl ⟨by rfl, ?_⟩) trivial ?_
      · rintro u -
        go_simp
        intro hh
        omega
      simp only [Act.put]
      refine wpAnyH_take (i := 4) (v := .pointer (some ⟨w.heap.size, 0, none⟩)) rfl (by kernel_rfl) (by kernel_rfl) (by kernel_rfl) (fun _ _ _ h => h) (Or.inl ⟨by rfl, ?_⟩) trivial ?_
      · rintro u -
        go_simp
      simp only [Act.put]
      refine wpAnyH_take (i := 9) (v := .string t) rfl (by kernel_rfl) (by kernel_rfl) (by kernel_rfl) (fun _ _ _ h => h) (Or.inl ⟨by rfl, ?_⟩) trivial ?_
      · rintro u -
        go_simp
      simp only [Act.put]
      refine wpAnyH_take (i := 10) (v := .int .i64 (k : Int)) rfl (by kernel_rfl) (by kernel_rfl) (by kernel_rfl) (fun _ _ _ h => h) (Or.inl ⟨by rfl, ?_⟩) trivial ?_
      · rintro u -
        go_simp
      simp only [Act.put]
      refine wpAnyH_take (i := 11) (v := .string (t.extract k t.size)) rfl (by kernel_rfl) (by kernel_rfl) (by kernel_rfl) (fun _ _ _ h => h) (Or.inl ⟨by rfl, ?_⟩) trivial ?_
      · rintro u -
        go_simp
        intro hh
        omega
      simp only [Act.put]
      have bD : Below w5.heap.size w5 w5.drew := (Below.refl _ _).drew
      have bA : Below w5.heap.size w5 (w5.drew.alloc (.cells #[.string ⟨#[]⟩, .string ⟨#[32]⟩, .string ⟨#[58]⟩, .string ⟨#[48]⟩, .string ⟨#[45]⟩, .string ⟨#[57]⟩, .string ⟨#[97]⟩] 9)) := bD.alloc bD.size _
      have hR5 := hr5.lt
      refine wpAnyH_ready (rs := [3, 5]) (by kernel_rfl) (by simp) ?_
      refine AllReadyH.cons rfl (fun K hK => ?_) (AllReadyH.cons rfl (fun K hK => ?_) AllReadyH.nil)
      · rw [if_pos (by rfl)]
        go_simp
        refine hK.out _ _ trivial (fun _ => ?_)
        clear hK K
        refine wpAnyH_ready (rs := [5]) (by kernel_rfl) (by simp) ?_
        refine AllReadyH.cons rfl (fun K hK => ?_) AllReadyH.nil
        rw [if_pos (by rfl)]
        go_simp
        refine (pick_any _ m c _ ab _ _ (hr5.below bA) (by omega) (by omega) (by omega)).mono ?_
        rintro e w9 ⟨⟨y9, rfl, hy90, hy91⟩, hr9, hb9⟩
        obtain ⟨q9, rfl⟩ := Int.eq_ofNat_of_zero_le hy90
        obtain ⟨u9, hu9, hu9z⟩ : ∃ u9 : ByteArray, w9.cell? ⟨w5.heap.size, q9, none⟩ = some (.string u9) ∧ u9.size ≤ 3 := by
          have ht9 := table_at (w := w5.drew) hR5 hb9 q9 (by simp; omega)
          rw [show w9.cell? ⟨w5.heap.size, q9, none⟩ = _ from ht9]
          rcases (by omega : q9 = 0 ∨ q9 = 1 ∨ q9 = 2 ∨ q9 = 3 ∨ q9 = 4 ∨ q9 = 5 ∨ q9 = 6) with rfl | rfl | rfl | rfl | rfl | rfl | rfl <;> exact ⟨_, rfl, by decide⟩
        have B9 : Below w.heap.size w w9 := (B5.trans (bA.mono B5.size)).trans (hb9.below (Nat.le_refl _) (Nat.le_trans B5.size bA.size))
        clear hb9
        refine hK.out _ _ trivial (fun _ => ?_)
        clear hK K
        refine wpAnyH_take (i := 6) (v := .pointer (some ⟨w5.heap.size, q9, none⟩)) rfl (by kernel_rfl) (by kernel_rfl) (by kernel_rfl) (fun _ _ _ h => h) (Or.inl ⟨by rfl, ?_⟩) trivial ?_
        · rintro u -
          go_simp
        simp only [Act.put]
        refine wpAnyH_ready (rs := [7]) (by kernel_rfl) (by simp) ?_
        refine AllReadyH.cons rfl (fun K hK => ?_) AllReadyH.nil
        rw [if_pos (by rfl)]
        go_simp
        refine hK.out _ _ trivial (fun _ => ?_)
        clear hK K
        refine wpAnyH_take (i := 8) (v := .string (t.extract 0 k ++ u9)) rfl (by kernel_rfl) (by kernel_rfl) (by kernel_rfl) (fun _ _ _ h => h) (Or.inl ⟨by rfl, ?_⟩) trivial ?_
        · rintro u -
          go_simp
          omega
        simp only [Act.put]
        refine wpAnyH_take (i := 12) (v := .string (t.extract 0 k ++ u9 ++ t.extract k t.size)) rfl (by kernel_rfl) (by kernel_rfl) (by kernel_rfl) (fun _ _ _ h => h) (Or.inl ⟨by rfl, ?_⟩) trivial ?_
        · rintro u -
          go_simp
          omega
        simp only [Act.put]
        refine wpAnyH_ready (rs := [13]) (by kernel_rfl) (by simp) ?_
        refine AllReadyH.cons rfl (fun K hK => ?_) AllReadyH.nil
        rw [if_pos (by rfl)]
        go_simp
        refine hK.out _ _ trivial (fun _ => ?_)
        clear hK K
        refine wpAnyH_done (by kernel_rfl) ?_ _
        have hTs : (t.extract 0 k ++ u9 ++ t.extract k t.size).size ≤ 300 := by
          rw [ByteArray.size_append, ByteArray.size_append]
          omega
        generalize t.extract 0 k ++ u9 ++ t.extract k t.size = T at *
        go_wp2_with fail
        refine (pick_any _ m c _ ab _ _ hr9 (by omega) (by omega) (by omega)).mono ?_
        rintro e w6 ⟨⟨z, rfl, hz0, hz1⟩, hr6, hb6⟩
        have B6 : Below w.heap.size w w6 := B9.trans (hb6.below (Nat.le_refl _) B9.size)
        have hR6 := hr6.lt
        clear hb6
        by_cases hz : z = 0
        · subst hz
          go_wp2_with fail
          refine (l1Many_any _ 100 _ (by decide) (by omega)).mono ?_
          rintro e w7 ⟨⟨t2, rfl, ht2⟩, rfl⟩
          have hbt : Below w7.heap.size w7 (w7.alloc (.cells #[.string ⟨#[]⟩, .string ⟨#[98]⟩, .string ⟨#[98, 58, 49]⟩] 9)) := (Below.refl _ _).alloc (Nat.le_refl _) _
          go_wp2_with fail
          refine (pick_any _ m c _ ab _ _ (hr6.below hbt) (by omega) (by omega) (by omega)).mono ?_
          rintro e w8 ⟨⟨y8, rfl, hy80, hy81⟩, hr8, hb8⟩
          obtain ⟨q8, rfl⟩ := Int.eq_ofNat_of_zero_le hy80
          obtain ⟨u8, hu8, hu8z⟩ : ∃ u8 : ByteArray, w8.cell? ⟨w7.heap.size, q8, none⟩ = some (.string u8) ∧ u8.size ≤ 3 := by
            rw [table_at hR6 hb8 q8 (by simp; omega)]
            rcases (by omega : q8 = 0 ∨ q8 = 1 ∨ q8 = 2) with rfl | rfl | rfl <;> exact ⟨_, rfl, by decide⟩
          have B8 : Below w.heap.size w w8 := (B6.trans (hbt.mono B6.size)).trans (hb8.below (Nat.le_refl _) (Nat.le_trans B6.size hbt.size))
          have hadd : (t2 ++ u8).size = t2.size + u8.size := ByteArray.size_append
          clear hb8
          go_wp2_with fail
          go_ret
          exact ⟨⟨_, rfl, by rw [hadd]; omega⟩, B8⟩
        · have hz' : (z == 0) = false := by simp [hz]
          go_wp2_with fail
          go_ret
          exact ⟨⟨_, rfl, by omega⟩, B6⟩
      · rw [if_pos (by rfl)]
        go_simp
        refine (pick_any _ m c _ ab _ _ (hr5.below bD) (by omega) (by omega) (by omega)).mono ?_
        rintro e w9 ⟨⟨y9, rfl, hy90, hy91⟩, hr9, hb9⟩
        obtain ⟨q9, rfl⟩ := Int.eq_ofNat_of_zero_le hy90
        refine hK.out _ _ trivial (fun _ => ?_)
        clear hK K
        refine wpAnyH_ready (rs := [3]) (by kernel_rfl) (by simp) ?_
        refine AllReadyH.cons rfl (fun K hK => ?_) AllReadyH.nil
        rw [if_pos (by rfl)]
        go_simp
        have bA9 : Below w9.heap.size w9 (w9.alloc (.cells #[.string ⟨#[]⟩, .string ⟨#[32]⟩, .string ⟨#[58]⟩, .string ⟨#[48]⟩, .string ⟨#[45]⟩, .string ⟨#[57]⟩, .string ⟨#[97]⟩] 9)) := (Below.refl _ _).alloc (Nat.le_refl _) _
        have hr10 := hr9.below bA9
        have B9 : Below w.heap.size w w9 := (B5.trans (bD.mono B5.size)).trans (hb9.below (Nat.le_refl _) (Nat.le_trans B5.size bD.size))
        have B10 : Below w.heap.size w (w9.alloc (.cells #[.string ⟨#[]⟩, .string ⟨#[32]⟩, .string ⟨#[58]⟩, .string ⟨#[48]⟩, .string ⟨#[45]⟩, .string ⟨#[57]⟩, .string ⟨#[97]⟩] 9)) := B9.trans (bA9.mono B9.size)
        obtain ⟨u9, hu9, hu9z⟩ : ∃ u9 : ByteArray, (w9.alloc (.cells #[.string ⟨#[]⟩, .string ⟨#[32]⟩, .string ⟨#[58]⟩, .string ⟨#[48]⟩, .string ⟨#[45]⟩, .string ⟨#[57]⟩, .string ⟨#[97]⟩] 9)).cell? ⟨w9.heap.size, q9, none⟩ = some (.string u9) ∧ u9.size ≤ 3 := by
          rcases (by omega : q9 = 0 ∨ q9 = 1 ∨ q9 = 2 ∨ q9 = 3 ∨ q9 = 4 ∨ q9 = 5 ∨ q9 = 6) with rfl | rfl | rfl | rfl | rfl | rfl | rfl <;> exact ⟨_, by simp [go_sem]; rfl, by decide⟩
        clear hb9
        generalize w9.alloc (.cells #[.string ⟨#[]⟩, .string ⟨#[32]⟩, .string ⟨#[58]⟩, .string ⟨#[48]⟩, .string ⟨#[45]⟩, .string ⟨#[57]⟩, .string ⟨#[97]⟩] 9) = w10 at *
        refine hK.out _ _ trivial (fun _ => ?_)
        clear hK K
        refine wpAnyH_take (i := 6) (v := .pointer (some ⟨w9.heap.size, q9, none⟩)) rfl (by kernel_rfl) (by kernel_rfl) (by kernel_rfl) (fun _ _ _ h => h) (Or.inl ⟨by rfl, ?_⟩) trivial ?_
        · rintro u -
          go_simp
        simp only [Act.put]
        refine wpAnyH_ready (rs := [7]) (by kernel_rfl) (by simp) ?_
        refine AllReadyH.cons rfl (fun K hK => ?_) AllReadyH.nil
        rw [if_pos (by rfl)]
        go_simp
        refine hK.out _ _ trivial (fun _ => ?_)
        clear hK K
        refine wpAnyH_take (i := 8) (v := .string (t.extract 0 k ++ u9)) rfl (by kernel_rfl) (by kernel_rfl) (by kernel_rfl) (fun _ _ _ h => h) (Or.inl ⟨by rfl, ?_⟩) trivial ?_
        · rintro u -
          go_simp
          omega
        simp only [Act.put]
        refine wpAnyH_take (i := 12) (v := .string (t.extract 0 k ++ u9 ++ t.extract k t.size)) rfl (by kernel_rfl) (by kernel_rfl) (by kernel_rfl) (fun _ _ _ h => h) (Or.inl ⟨by rfl, ?_⟩) trivial ?_
        · rintro u -
          go_simp
          omega
        simp only [Act.put]
        refine wpAnyH_ready (rs := [13]) (by kernel_rfl) (by simp) ?_
        refine AllReadyH.cons rfl (fun K hK => ?_) AllReadyH.nil
        rw [if_pos (by rfl)]
        go_simp
        refine hK.out _ _ trivial (fun _ => ?_)
        clear hK K
        refine wpAnyH_done (by kernel_rfl) ?_ _
        have hTs : (t.extract 0 k ++ u9 ++ t.extract k t.size).size ≤ 300 := by
          rw [ByteArray.size_append, ByteArray.size_append]
          omega
        generalize t.extract 0 k ++ u9 ++ t.extract k t.size = T at *
        go_wp2_with fail
        refine (pick_any _ m c _ ab _ _ hr10 (by omega) (by omega) (by omega)).mono ?_
        rintro e w6 ⟨⟨z, rfl, hz0, hz1⟩, hr6, hb6⟩
        have B6 : Below w.heap.size w w6 := B10.trans (hb6.below (Nat.le_refl _) B10.size)
        have hR6 := hr6.lt
        clear hb6
        by_cases hz : z = 0
        · subst hz
          go_wp2_with fail
          refine (l1Many_any _ 100 _ (by decide) (by omega)).mono ?_
          rintro e w7 ⟨⟨t2, rfl, ht2⟩, rfl⟩
          have hbt : Below w7.heap.size w7 (w7.alloc (.cells #[.string ⟨#[]⟩, .string ⟨#[98]⟩, .string ⟨#[98, 58, 49]⟩] 9)) := (Below.refl _ _).alloc (Nat.le_refl _) _
          go_wp2_with fail
          refine (pick_any _ m c _ ab _ _ (hr6.below hbt) (by omega) (by omega) (by omega)).mono ?_
          rintro e w8 ⟨⟨y8, rfl, hy80, hy81⟩, hr8, hb8⟩
          obtain ⟨q8, rfl⟩ := Int.eq_ofNat_of_zero_le hy80
          obtain ⟨u8, hu8, hu8z⟩ : ∃ u8 : ByteArray, w8.cell? ⟨w7.heap.size, q8, none⟩ = some (.string u8) ∧ u8.size ≤ 3 := by
            rw [table_at hR6 hb8 q8 (by simp; omega)]
            rcases (by omega : q8 = 0 ∨ q8 = 1 ∨ q8 = 2) with rfl | rfl | rfl <;> exact ⟨_, rfl, by decide⟩
          have B8 : Below w.heap.size w w8 := (B6.trans (hbt.mono B6.size)).trans (hb8.below (Nat.le_refl _) (Nat.le_trans B6.size hbt.size))
          have hadd : (t2 ++ u8).size = t2.size + u8.size := ByteArray.size_append
          clear hb8
          go_wp2_with fail
          go_ret
          exact ⟨⟨_, rfl, by rw [hadd]; omega⟩, B8⟩
        · have hz' : (z == 0) = false := by simp [hz]
          go_wp2_with fail
          go_ret
          exact ⟨⟨_, rfl, by omega⟩, B6⟩
    · have ht0' : decide ((0 : Int) < (t.size : Int)) = false := by rw [decide_eq_false_iff_not]; omega
      go_wp2_with fail
      refine (pick_any _ m c _ ab _ _ hr4 (by omega) (by omega) (by omega)).mono ?_
      rintro e w6 ⟨⟨z, rfl, hz0, hz1⟩, hr6, hb6⟩
      have B6 : Below w.heap.size w w6 := B4.trans (hb6.below (Nat.le_refl _) B4.size)
      have hR6 := hr6.lt
      clear hb6
      by_cases hz : z = 0
      · subst hz
        go_wp2_with fail
        refine (l1Many_any _ 100 _ (by decide) (by omega)).mono ?_
        rintro e w7 ⟨⟨t2, rfl, ht2⟩, rfl⟩
        have hbt : Below w7.heap.size w7 (w7.alloc (.cells #[.string ⟨#[]⟩, .string ⟨#[98]⟩, .string ⟨#[98, 58, 49]⟩] 9)) := (Below.refl _ _).alloc (Nat.le_refl _) _
        go_wp2_with fail
        refine (pick_any _ m c _ ab _ _ (hr6.below hbt) (by omega) (by omega) (by omega)).mono ?_
        rintro e w8 ⟨⟨y8, rfl, hy80, hy81⟩, hr8, hb8⟩
        obtain ⟨q8, rfl⟩ := Int.eq_ofNat_of_zero_le hy80
        obtain ⟨u8, hu8, hu8z⟩ : ∃ u8 : ByteArray, w8.cell? ⟨w7.heap.size, q8, none⟩ = some (.string u8) ∧ u8.size ≤ 3 := by
          rw [table_at hR6 hb8 q8 (by simp; omega)]
          rcases (by omega : q8 = 0 ∨ q8 = 1 ∨ q8 = 2) with rfl | rfl | rfl <;> exact ⟨_, rfl, by decide⟩
        have B8 : Below w.heap.size w w8 := (B6.trans (hbt.mono B6.size)).trans (hb8.below (Nat.le_refl _) (Nat.le_trans B6.size hbt.size))
        have hadd : (t2 ++ u8).size = t2.size + u8.size := ByteArray.size_append
        clear hb8
        go_wp2_with fail
        go_ret
        exact ⟨⟨_, rfl, by rw [hadd]; omega⟩, B8⟩
      · have hz' : (z == 0) = false := by simp [hz]
        go_wp2_with fail
        go_ret
        exact ⟨⟨_, rfl, by omega⟩, B6⟩
  · have hx' : (x == 0) = false := by simp [hx]
    go_wp2_with fail
    refine (pick_any _ m c _ ab _ _ hr4 (by omega) (by omega) (by omega)).mono ?_
    rintro e w6 ⟨⟨z, rfl, hz0, hz1⟩, hr6, hb6⟩
    have B6 : Below w.heap.size w w6 := B4.trans (hb6.below (Nat.le_refl _) B4.size)
    have hR6 := hr6.lt
    clear hb6
    by_cases hz : z = 0
    · subst hz
      go_wp2_with fail
      refine (l1Many_any _ 100 _ (by decide) (by omega)).mono ?_
      rintro e w7 ⟨⟨t2, rfl, ht2⟩, rfl⟩
      have hbt : Below w7.heap.size w7 (w7.alloc (.cells #[.string ⟨#[]⟩, .string ⟨#[98]⟩, .string ⟨#[98, 58, 49]⟩] 9)) := (Below.refl _ _).alloc (Nat.le_refl _) _
      go_wp2_with fail
      refine (pick_any _ m c _ ab _ _ (hr6.below hbt) (by omega) (by omega) (by omega)).mono ?_
      rintro e w8 ⟨⟨y8, rfl, hy80, hy81⟩, hr8, hb8⟩
      obtain ⟨q8, rfl⟩ := Int.eq_ofNat_of_zero_le hy80
      obtain ⟨u8, hu8, hu8z⟩ : ∃ u8 : ByteArray, w8.cell? ⟨w7.heap.size, q8, none⟩ = some (.string u8) ∧ u8.size ≤ 3 := by
        rw [table_at hR6 hb8 q8 (by simp; omega)]
        rcases (by omega : q8 = 0 ∨ q8 = 1 ∨ q8 = 2) with rfl | rfl | rfl <;> exact ⟨_, rfl, by decide⟩
      have B8 : Below w.heap.size w w8 := (B6.trans (hbt.mono B6.size)).trans (hb8.below (Nat.le_refl _) (Nat.le_trans B6.size hbt.size))
      have hadd : (t2 ++ u8).size = t2.size + u8.size := ByteArray.size_append
      clear hb8
      go_wp2_with fail
      go_ret
      exact ⟨⟨_, rfl, by rw [hadd]; omega⟩, B8⟩
    · have hz' : (z == 0) = false := by simp [hz]
      go_wp2_with fail
      go_ret
      exact ⟨⟨_, rfl, by omega⟩, B6⟩

end Go.Proofs.YtpfhegengmlkmaaDoor
