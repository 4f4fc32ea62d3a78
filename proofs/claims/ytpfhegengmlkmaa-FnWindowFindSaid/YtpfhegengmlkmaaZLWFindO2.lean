/- Texts of this claim, one behind the other. -/
import Derived.Test.YtpfhegengmlkmaaWinL
import Derived.Test.YtpfhegengmlkmaaGet
import Derived.Test.YtpfhegengmlkmaaZLWFindO1
/- Walk: DrawWindowFind (written by gen_drawf.py). -/
namespace Go.Proofs.Ytpfhegengmlkmaa
open Go.RowKit Go.BigFrame
set_option maxRecDepth 100000

theorem tab5 (w : World) : ∀ k, k < 5 → ∃ s : ByteArray, (w.alloc (.cells #[.string ⟨#[119]⟩, .string ⟨#[120]⟩, .string ⟨#[121]⟩, .string ⟨#[122]⟩, .string ⟨#[118]⟩] 9)).cell? ⟨w.heap.size, k, none⟩ = some (.string s) ∧ s.size ≤ 8 := fun k hk => by
  rcases (by omega : k = 0 ∨ k = 1 ∨ k = 2 ∨ k = 3 ∨ k = 4) with rfl | rfl | rfl | rfl | rfl <;> exact ⟨_, by simp [go_sem]; rfl, by decide⟩

set_option maxHeartbeats 12800000 in
theorem drawWFind_any (ab : Option Addr) (n c : Nat) (w : World) (h : Bytes w ab n c) :
    Calls Try.prog 35 #[.slice ab n c] w fun e w' => (∃ v L s ver, e = .returned (.tuple #[v, .string s, .int .i64 ver]) ∧ GathJ w' w.heap.size v L ∧ FewI 6 (L.map (·.1)) ∧ s.size ≤ 8) ∧ Below w.heap.size w w' := by
  go_enter Try.func35, Try.ntmps35
  go_wp2_with fail
  refine (l1Open_any ab n c _ h).mono ?_
  rintro e w1 ⟨⟨m, rfl, hr1⟩, hb1⟩
  have hR := hr1.lt
  go_wp2_with fail
  refine (pick_any _ m c 0 ab 15 _ hr1 (by omega) (by omega) (by omega)).mono ?_
  rintro e w2 ⟨⟨y, rfl, hy0, hy1⟩, hr2, hb2⟩
  have hB2 : But w.heap.size w1 w2 := hb2
  clear hb2 hr1 h
  go_wp2_with fail
  refine (l6Window_any _ m c (0 + 1) ab _ w2 hr2 (by omega)).mono ?_
  rintro e w3 ⟨⟨v, L, p3, rfl, hg3, hf3, hr3, hp3⟩, hb3⟩
  have hB3 : But w.heap.size w1 w3 := hB2.trans hb3
  have hz2 := hB2.size
  have hz12 : w.heap.size ≤ w2.heap.size := by omega
  have hz0 : w.heap.size < w2.heap.size := hr2.lt
  obtain ⟨a3, c3, rfl, _, _, _⟩ := hg3.form
  clear hb3 hB2 hr2
  go_wp2_with fail
  have hbd : Below w3.heap.size w3 w3.drew := (Below.refl _ _).drew
  have hr := hr3.below hbd
  have hg := hg3.keep hbd
  have hB : But w.heap.size w1 w3.drew := hB3.trans (But.of_below hbd)
  clear hr3 hg3 hB3 hbd
  refine wp_region_held_drew (S := fun _ => True) (by kernel_rfl) trivial (fun _ => ?_)
  generalize w3.drew = W at *
  refine wpAnyH_take (i := 0) (v := .slice a3 L.length c3) rfl (by kernel_rfl) (by kernel_rfl) (by kernel_rfl) (fun _ _ _ h => h) (Or.inl ⟨by rfl, ?_⟩) trivial ?_
  · rintro u _
    go_simp
  simp only [Act.put, List.setIfInBounds_toArray]
  refine wpAnyH_take (i := 2) (v := .pointer (some ⟨w.heap.size, 0, none⟩)) rfl (by kernel_rfl) (by kernel_rfl) (by kernel_rfl) (fun _ _ _ h => h) (Or.inl ⟨by rfl, ?_⟩) trivial ?_
  · rintro u _
    go_simp
  simp only [Act.put]
  refine wpAnyH_take (i := 6) (v := .pointer (some ⟨w.heap.size, 0, none⟩)) rfl (by kernel_rfl) (by kernel_rfl) (by kernel_rfl) (fun _ _ _ h => h) (Or.inl ⟨by rfl, ?_⟩) trivial ?_
  · rintro u _
    go_simp
  simp only [Act.put]
  refine wpAnyH_ready (rs := [1, 3]) (by kernel_rfl) (by simp) ?_
  refine AllReadyH.cons rfl (fun K hK => ?_) (AllReadyH.cons rfl (fun K hK => ?_) AllReadyH.nil)
  · rw [if_pos (by rfl)]
    go_simp
    have hbA : Below W.heap.size W (W.alloc (.cells #[.string ⟨#[119]⟩, .string ⟨#[120]⟩, .string ⟨#[121]⟩, .string ⟨#[122]⟩, .string ⟨#[118]⟩] 9)) := (Below.refl _ _).alloc (Nat.le_refl _) _
    have htab : ∀ k, k < 5 → ∃ s : ByteArray, (W.alloc (.cells #[.string ⟨#[119]⟩, .string ⟨#[120]⟩, .string ⟨#[121]⟩, .string ⟨#[122]⟩, .string ⟨#[118]⟩] 9)).cell? ⟨W.heap.size, k, none⟩ = some (.string s) ∧ s.size ≤ 8 := tab5 W
    have htb : w.heap.size ≠ W.heap.size := by have := hr.lt; omega
    replace hr := hr.below hbA
    replace hg := hg.keep hbA
    replace hB := hB.trans (But.of_below hbA)
    refine hK.out _ _ trivial (fun _ => ?_)
    clear hK K hbA
    generalize W.heap.size = tb at *
    generalize W.alloc (.cells #[.string ⟨#[119]⟩, .string ⟨#[120]⟩, .string ⟨#[121]⟩, .string ⟨#[122]⟩, .string ⟨#[118]⟩] 9) = W at *
    refine wpAnyH_ready (rs := [3]) (by kernel_rfl) (by simp) ?_
    refine AllReadyH.cons rfl (fun K hK => ?_) AllReadyH.nil
    rw [if_pos (by rfl)]
    go_simp
    refine (pick_any _ m c _ ab 5 _ hr (by omega) (by omega) (by omega)).mono ?_
    rintro e W ⟨⟨y3, rfl, hy30, hy31⟩, hr2, hb2⟩
    replace hg := hg.but hb2 hz0
    replace hB := hB.trans hb2
    replace htab : ∀ k, k < 5 → ∃ s : ByteArray, W.cell? ⟨tb, k, none⟩ = some (.string s) ∧ s.size ≤ 8 := fun k hk => by
      obtain ⟨s, e, hs⟩ := htab k hk
      exact ⟨s, (hb2.cell (b := tb) k (block_lt_of_cell e) (Ne.symm htb)).trans e, hs⟩
    refine hK.out _ _ trivial (fun _ => ?_)
    clear hK K hr hb2
    have hr := hr2
    clear hr2
    obtain ⟨j, rfl⟩ := Int.eq_ofNat_of_zero_le hy30
    have hj5 : j < 5 := by omega
    refine wpAnyH_take (i := 4) (v := .pointer (some ⟨tb, j, none⟩)) rfl (by kernel_rfl) (by kernel_rfl) (by kernel_rfl) (fun _ _ _ h => h) (Or.inl ⟨by rfl, ?_⟩) trivial ?_
    · rintro u _
      go_simp
    simp only [Act.put, List.setIfInBounds_toArray]
    refine wpAnyH_ready (rs := [5, 7]) (by kernel_rfl) (by simp) ?_
    refine AllReadyH.cons rfl (fun K hK => ?_) (AllReadyH.cons rfl (fun K hK => ?_) AllReadyH.nil)
    · rw [if_pos (by rfl)]
      obtain ⟨s, e5, hs8⟩ := htab j hj5
      go_simp
      refine hK.out _ _ trivial (fun _ => ?_)
      clear hK K
      refine wpAnyH_ready (rs := [7]) (by kernel_rfl) (by simp) ?_
      refine AllReadyH.cons rfl (fun K hK => ?_) AllReadyH.nil
      rw [if_pos (by rfl)]
      go_simp
      refine (pick_any _ m c _ ab 8 _ hr (by omega) (by omega) (by omega)).mono ?_
      rintro e W ⟨⟨y7, rfl, hy70, hy71⟩, hr2, hb2⟩
      replace hg := hg.but hb2 hz0
      replace hB := hB.trans hb2
      refine hK.out _ _ trivial (fun _ => ?_)
      clear hK K hr hb2
      have hr := hr2
      clear hr2
      refine wpAnyH_ready (rs := [8]) (by kernel_rfl) (by simp) ?_
      refine AllReadyH.cons rfl (fun K hK => ?_) AllReadyH.nil
      rw [if_pos (by rfl)]
      go_simp
      refine hK.out _ _ trivial (fun _ => ?_)
      clear hK K
      refine wpAnyH_ready (rs := [9]) (by kernel_rfl) (by simp) ?_
      refine AllReadyH.cons rfl (fun K hK => ?_) AllReadyH.nil
      rw [if_pos (by rfl)]
      go_simp
      refine hK.out _ _ trivial (fun _ => ?_)
      clear hK K
      refine wpAnyH_ready (rs := [10]) (by kernel_rfl) (by simp) ?_
      refine AllReadyH.cons rfl (fun K hK => ?_) AllReadyH.nil
      rw [if_pos (by rfl)]
      go_simp
      refine hK.out _ _ trivial (fun _ => ?_)
      clear hK K
      refine wpAnyH_done (by kernel_rfl) ?_ _
      go_wp2_with fail
      exact bodyPost_ret (v := .tuple #[.slice a3 L.length c3, .string s, .int .i64 y7]) (by simp [results, Try.results35, go_sem]) rfl ⟨⟨_, L, s, y7, rfl, hg.lower hz12, hf3, hs8⟩, hb1.trans (hB.below (Nat.le_refl _) hb1.size)⟩
    · rw [if_pos (by rfl)]
      go_simp
      refine (pick_any _ m c _ ab 8 _ hr (by omega) (by omega) (by omega)).mono ?_
      rintro e W ⟨⟨y7, rfl, hy70, hy71⟩, hr2, hb2⟩
      replace hg := hg.but hb2 hz0
      replace hB := hB.trans hb2
      replace htab : ∀ k, k < 5 → ∃ s : ByteArray, W.cell? ⟨tb, k, none⟩ = some (.string s) ∧ s.size ≤ 8 := fun k hk => by
        obtain ⟨s, e, hs⟩ := htab k hk
        exact ⟨s, (hb2.cell (b := tb) k (block_lt_of_cell e) (Ne.symm htb)).trans e, hs⟩
      refine hK.out _ _ trivial (fun _ => ?_)
      clear hK K hr hb2
      have hr := hr2
      clear hr2
      refine wpAnyH_ready (rs := [5, 8]) (by kernel_rfl) (by simp) ?_
      refine AllReadyH.cons rfl (fun K hK => ?_) (AllReadyH.cons rfl (fun K hK => ?_) AllReadyH.nil)
      · rw [if_pos (by rfl)]
        obtain ⟨s, e5, hs8⟩ := htab j hj5
        go_simp
        refine hK.out _ _ trivial (fun _ => ?_)
        clear hK K
        refine wpAnyH_ready (rs := [8]) (by kernel_rfl) (by simp) ?_
        refine AllReadyH.cons rfl (fun K hK => ?_) AllReadyH.nil
        rw [if_pos (by rfl)]
        go_simp
        refine hK.out _ _ trivial (fun _ => ?_)
        clear hK K
        refine wpAnyH_ready (rs := [9]) (by kernel_rfl) (by simp) ?_
        refine AllReadyH.cons rfl (fun K hK => ?_) AllReadyH.nil
        rw [if_pos (by rfl)]
        go_simp
        refine hK.out _ _ trivial (fun _ => ?_)
        clear hK K
        refine wpAnyH_ready (rs := [10]) (by kernel_rfl) (by simp) ?_
        refine AllReadyH.cons rfl (fun K hK => ?_) AllReadyH.nil
        rw [if_pos (by rfl)]
        go_simp
        refine hK.out _ _ trivial (fun _ => ?_)
        clear hK K
        refine wpAnyH_done (by kernel_rfl) ?_ _
        go_wp2_with fail
        exact bodyPost_ret (v := .tuple #[.slice a3 L.length c3, .string s, .int .i64 y7]) (by simp [results, Try.results35, go_sem]) rfl ⟨⟨_, L, s, y7, rfl, hg.lower hz12, hf3, hs8⟩, hb1.trans (hB.below (Nat.le_refl _) hb1.size)⟩
      · rw [if_pos (by rfl)]
        go_simp
        refine hK.out _ _ trivial (fun _ => ?_)
        clear hK K
        refine wpAnyH_ready (rs := [5]) (by kernel_rfl) (by simp) ?_
        refine AllReadyH.cons rfl (fun K hK => ?_) AllReadyH.nil
        rw [if_pos (by rfl)]
        obtain ⟨s, e5, hs8⟩ := htab j hj5
        go_simp
        refine hK.out _ _ trivial (fun _ => ?_)
        clear hK K
        refine wpAnyH_ready (rs := [9]) (by kernel_rfl) (by simp) ?_
        refine AllReadyH.cons rfl (fun K hK => ?_) AllReadyH.nil
        rw [if_pos (by rfl)]
        go_simp
        refine hK.out _ _ trivial (fun _ => ?_)
        clear hK K
        refine wpAnyH_ready (rs := [10]) (by kernel_rfl) (by simp) ?_
        refine AllReadyH.cons rfl (fun K hK => ?_) AllReadyH.nil
        rw [if_pos (by rfl)]
        go_simp
        refine hK.out _ _ trivial (fun _ => ?_)
        clear hK K
        refine wpAnyH_done (by kernel_rfl) ?_ _
        go_wp2_with fail
        exact bodyPost_ret (v := .tuple #[.slice a3 L.length c3, .string s, .int .i64 y7]) (by simp [results, Try.results35, go_sem]) rfl ⟨⟨_, L, s, y7, rfl, hg.lower hz12, hf3, hs8⟩, hb1.trans (hB.below (Nat.le_refl _) hb1.size)⟩
  · rw [if_pos (by rfl)]
    go_simp
    refine (pick_any _ m c _ ab 5 _ hr (by omega) (by omega) (by omega)).mono ?_
    rintro e W ⟨⟨y3, rfl, hy30, hy31⟩, hr2, hb2⟩
    replace hg := hg.but hb2 hz0
    replace hB := hB.trans hb2
    refine hK.out _ _ trivial (fun _ => ?_)
    clear hK K hr hb2
    have hr := hr2
    clear hr2
    obtain ⟨j, rfl⟩ := Int.eq_ofNat_of_zero_le hy30
    have hj5 : j < 5 := by omega
    refine wpAnyH_ready (rs := [1, 7]) (by kernel_rfl) (by simp) ?_
    refine AllReadyH.cons rfl (fun K hK => ?_) (AllReadyH.cons rfl (fun K hK => ?_) AllReadyH.nil)
    · rw [if_pos (by rfl)]
      go_simp
      have hbA : Below W.heap.size W (W.alloc (.cells #[.string ⟨#[119]⟩, .string ⟨#[120]⟩, .string ⟨#[121]⟩, .string ⟨#[122]⟩, .string ⟨#[118]⟩] 9)) := (Below.refl _ _).alloc (Nat.le_refl _) _
      have htab : ∀ k, k < 5 → ∃ s : ByteArray, (W.alloc (.cells #[.string ⟨#[119]⟩, .string ⟨#[120]⟩, .string ⟨#[121]⟩, .string ⟨#[122]⟩, .string ⟨#[118]⟩] 9)).cell? ⟨W.heap.size, k, none⟩ = some (.string s) ∧ s.size ≤ 8 := tab5 W
      have htb : w.heap.size ≠ W.heap.size := by have := hr.lt; omega
      replace hr := hr.below hbA
      replace hg := hg.keep hbA
      replace hB := hB.trans (But.of_below hbA)
      refine hK.out _ _ trivial (fun _ => ?_)
      clear hK K hbA
      generalize W.heap.size = tb at *
      generalize W.alloc (.cells #[.string ⟨#[119]⟩, .string ⟨#[120]⟩, .string ⟨#[121]⟩, .string ⟨#[122]⟩, .string ⟨#[118]⟩] 9) = W at *
      refine wpAnyH_take (i := 4) (v := .pointer (some ⟨tb, j, none⟩)) rfl (by kernel_rfl) (by kernel_rfl) (by kernel_rfl) (fun _ _ _ h => h) (Or.inl ⟨by rfl, ?_⟩) trivial ?_
      · rintro u _
        go_simp
      simp only [Act.put, List.setIfInBounds_toArray]
      refine wpAnyH_ready (rs := [5, 7]) (by kernel_rfl) (by simp) ?_
      refine AllReadyH.cons rfl (fun K hK => ?_) (AllReadyH.cons rfl (fun K hK => ?_) AllReadyH.nil)
      · rw [if_pos (by rfl)]
        obtain ⟨s, e5, hs8⟩ := htab j hj5
        go_simp
        refine hK.out _ _ trivial (fun _ => ?_)
        clear hK K
        refine wpAnyH_ready (rs := [7]) (by kernel_rfl) (by simp) ?_
        refine AllReadyH.cons rfl (fun K hK => ?_) AllReadyH.nil
        rw [if_pos (by rfl)]
        go_simp
        refine (pick_any _ m c _ ab 8 _ hr (by omega) (by omega) (by omega)).mono ?_
        rintro e W ⟨⟨y7, rfl, hy70, hy71⟩, hr2, hb2⟩
        replace hg := hg.but hb2 hz0
        replace hB := hB.trans hb2
        refine hK.out _ _ trivial (fun _ => ?_)
        clear hK K hr hb2
        have hr := hr2
        clear hr2
        refine wpAnyH_ready (rs := [8]) (by kernel_rfl) (by simp) ?_
        refine AllReadyH.cons rfl (fun K hK => ?_) AllReadyH.nil
        rw [if_pos (by rfl)]
        go_simp
        refine hK.out _ _ trivial (fun _ => ?_)
        clear hK K
        refine wpAnyH_ready (rs := [9]) (by kernel_rfl) (by simp) ?_
        refine AllReadyH.cons rfl (fun K hK => ?_) AllReadyH.nil
        rw [if_pos (by rfl)]
        go_simp
        refine hK.out _ _ trivial (fun _ => ?_)
        clear hK K
        refine wpAnyH_ready (rs := [10]) (by kernel_rfl) (by simp) ?_
        refine AllReadyH.cons rfl (fun K hK => ?_) AllReadyH.nil
        rw [if_pos (by rfl)]
        go_simp
        refine hK.out _ _ trivial (fun _ => ?_)
        clear hK K
        refine wpAnyH_done (by kernel_rfl) ?_ _
        go_wp2_with fail
        exact bodyPost_ret (v := .tuple #[.slice a3 L.length c3, .string s, .int .i64 y7]) (by simp [results, Try.results35, go_sem]) rfl ⟨⟨_, L, s, y7, rfl, hg.lower hz12, hf3, hs8⟩, hb1.trans (hB.below (Nat.le_refl _) hb1.size)⟩
      · rw [if_pos (by rfl)]
        go_simp
        refine (pick_any _ m c _ ab 8 _ hr (by omega) (by omega) (by omega)).mono ?_
        rintro e W ⟨⟨y7, rfl, hy70, hy71⟩, hr2, hb2⟩
        replace hg := hg.but hb2 hz0
        replace hB := hB.trans hb2
        replace htab : ∀ k, k < 5 → ∃ s : ByteArray, W.cell? ⟨tb, k, none⟩ = some (.string s) ∧ s.size ≤ 8 := fun k hk => by
          obtain ⟨s, e, hs⟩ := htab k hk
          exact ⟨s, (hb2.cell (b := tb) k (block_lt_of_cell e) (Ne.symm htb)).trans e, hs⟩
        refine hK.out _ _ trivial (fun _ => ?_)
        clear hK K hr hb2
        have hr := hr2
        clear hr2
        refine wpAnyH_ready (rs := [5, 8]) (by kernel_rfl) (by simp) ?_
        refine AllReadyH.cons rfl (fun K hK => ?_) (AllReadyH.cons rfl (fun K hK => ?_) AllReadyH.nil)
        · rw [if_pos (by rfl)]
          obtain ⟨s, e5, hs8⟩ := htab j hj5
          go_simp
          refine hK.out _ _ trivial (fun _ => ?_)
          clear hK K
          refine wpAnyH_ready (rs := [8]) (by kernel_rfl) (by simp) ?_
          refine AllReadyH.cons rfl (fun K hK => ?_) AllReadyH.nil
          rw [if_pos (by rfl)]
          go_simp
          refine hK.out _ _ trivial (fun _ => ?_)
          clear hK K
          refine wpAnyH_ready (rs := [9]) (by kernel_rfl) (by simp) ?_
          refine AllReadyH.cons rfl (fun K hK => ?_) AllReadyH.nil
          rw [if_pos (by rfl)]
          go_simp
          refine hK.out _ _ trivial (fun _ => ?_)
          clear hK K
          refine wpAnyH_ready (rs := [10]) (by kernel_rfl) (by simp) ?_
          refine AllReadyH.cons rfl (fun K hK => ?_) AllReadyH.nil
          rw [if_pos (by rfl)]
          go_simp
          refine hK.out _ _ trivial (fun _ => ?_)
          clear hK K
          refine wpAnyH_done (by kernel_rfl) ?_ _
          go_wp2_with fail
          exact bodyPost_ret (v := .tuple #[.slice a3 L.length c3, .string s, .int .i64 y7]) (by simp [results, Try.results35, go_sem]) rfl ⟨⟨_, L, s, y7, rfl, hg.lower hz12, hf3, hs8⟩, hb1.trans (hB.below (Nat.le_refl _) hb1.size)⟩
        · rw [if_pos (by rfl)]
          go_simp
          refine hK.out _ _ trivial (fun _ => ?_)
          clear hK K
          refine wpAnyH_ready (rs := [5]) (by kernel_rfl) (by simp) ?_
          refine AllReadyH.cons rfl (fun K hK => ?_) AllReadyH.nil
          rw [if_pos (by rfl)]
          obtain ⟨s, e5, hs8⟩ := htab j hj5
          go_simp
          refine hK.out _ _ trivial (fun _ => ?_)
          clear hK K
          refine wpAnyH_ready (rs := [9]) (by kernel_rfl) (by simp) ?_
          refine AllReadyH.cons rfl (fun K hK => ?_) AllReadyH.nil
          rw [if_pos (by rfl)]
          go_simp
          refine hK.out _ _ trivial (fun _ => ?_)
          clear hK K
          refine wpAnyH_ready (rs := [10]) (by kernel_rfl) (by simp) ?_
          refine AllReadyH.cons rfl (fun K hK => ?_) AllReadyH.nil
          rw [if_pos (by rfl)]
          go_simp
          refine hK.out _ _ trivial (fun _ => ?_)
          clear hK K
          refine wpAnyH_done (by kernel_rfl) ?_ _
          go_wp2_with fail
          exact bodyPost_ret (v := .tuple #[.slice a3 L.length c3, .string s, .int .i64 y7]) (by simp [results, Try.results35, go_sem]) rfl ⟨⟨_, L, s, y7, rfl, hg.lower hz12, hf3, hs8⟩, hb1.trans (hB.below (Nat.le_refl _) hb1.size)⟩
    · rw [if_pos (by rfl)]
      go_simp
      refine (pick_any _ m c _ ab 8 _ hr (by omega) (by omega) (by omega)).mono ?_
      rintro e W ⟨⟨y7, rfl, hy70, hy71⟩, hr2, hb2⟩
      replace hg := hg.but hb2 hz0
      replace hB := hB.trans hb2
      refine hK.out _ _ trivial (fun _ => ?_)
      clear hK K hr hb2
      have hr := hr2
      clear hr2
      refine wpAnyH_ready (rs := [1, 8]) (by kernel_rfl) (by simp) ?_
      refine AllReadyH.cons rfl (fun K hK => ?_) (AllReadyH.cons rfl (fun K hK => ?_) AllReadyH.nil)
      · rw [if_pos (by rfl)]
        go_simp
        have hbA : Below W.heap.size W (W.alloc (.cells #[.string ⟨#[119]⟩, .string ⟨#[120]⟩, .string ⟨#[121]⟩, .string ⟨#[122]⟩, .string ⟨#[118]⟩] 9)) := (Below.refl _ _).alloc (Nat.le_refl _) _
        have htab : ∀ k, k < 5 → ∃ s : ByteArray, (W.alloc (.cells #[.string ⟨#[119]⟩, .string ⟨#[120]⟩, .string ⟨#[121]⟩, .string ⟨#[122]⟩, .string ⟨#[118]⟩] 9)).cell? ⟨W.heap.size, k, none⟩ = some (.string s) ∧ s.size ≤ 8 := tab5 W
        have htb : w.heap.size ≠ W.heap.size := by have := hr.lt; omega
        replace hr := hr.below hbA
        replace hg := hg.keep hbA
        replace hB := hB.trans (But.of_below hbA)
        refine hK.out _ _ trivial (fun _ => ?_)
        clear hK K hbA
        generalize W.heap.size = tb at *
        generalize W.alloc (.cells #[.string ⟨#[119]⟩, .string ⟨#[120]⟩, .string ⟨#[121]⟩, .string ⟨#[122]⟩, .string ⟨#[118]⟩] 9) = W at *
        refine wpAnyH_take (i := 4) (v := .pointer (some ⟨tb, j, none⟩)) rfl (by kernel_rfl) (by kernel_rfl) (by kernel_rfl) (fun _ _ _ h => h) (Or.inl ⟨by rfl, ?_⟩) trivial ?_
        · rintro u _
          go_simp
        simp only [Act.put, List.setIfInBounds_toArray]
        refine wpAnyH_ready (rs := [5, 8]) (by kernel_rfl) (by simp) ?_
        refine AllReadyH.cons rfl (fun K hK => ?_) (AllReadyH.cons rfl (fun K hK => ?_) AllReadyH.nil)
        · rw [if_pos (by rfl)]
          obtain ⟨s, e5, hs8⟩ := htab j hj5
          go_simp
          refine hK.out _ _ trivial (fun _ => ?_)
          clear hK K
          refine wpAnyH_ready (rs := [8]) (by kernel_rfl) (by simp) ?_
          refine AllReadyH.cons rfl (fun K hK => ?_) AllReadyH.nil
          rw [if_pos (by rfl)]
          go_simp
          refine hK.out _ _ trivial (fun _ => ?_)
          clear hK K
          refine wpAnyH_ready (rs := [9]) (by kernel_rfl) (by simp) ?_
          refine AllReadyH.cons rfl (fun K hK => ?_) AllReadyH.nil
          rw [if_pos (by rfl)]
          go_simp
          refine hK.out _ _ trivial (fun _ => ?_)
          clear hK K
          refine wpAnyH_ready (rs := [10]) (by kernel_rfl) (by simp) ?_
          refine AllReadyH.cons rfl (fun K hK => ?_) AllReadyH.nil
          rw [if_pos (by rfl)]
          go_simp
          refine hK.out _ _ trivial (fun _ => ?_)
          clear hK K
          refine wpAnyH_done (by kernel_rfl) ?_ _
          go_wp2_with fail
          exact bodyPost_ret (v := .tuple #[.slice a3 L.length c3, .string s, .int .i64 y7]) (by simp [results, Try.results35, go_sem]) rfl ⟨⟨_, L, s, y7, rfl, hg.lower hz12, hf3, hs8⟩, hb1.trans (hB.below (Nat.le_refl _) hb1.size)⟩
        · rw [if_pos (by rfl)]
          go_simp
          refine hK.out _ _ trivial (fun _ => ?_)
          clear hK K
          refine wpAnyH_ready (rs := [5]) (by kernel_rfl) (by simp) ?_
          refine AllReadyH.cons rfl (fun K hK => ?_) AllReadyH.nil
          rw [if_pos (by rfl)]
          obtain ⟨s, e5, hs8⟩ := htab j hj5
          go_simp
          refine hK.out _ _ trivial (fun _ => ?_)
          clear hK K
          refine wpAnyH_ready (rs := [9]) (by kernel_rfl) (by simp) ?_
          refine AllReadyH.cons rfl (fun K hK => ?_) AllReadyH.nil
          rw [if_pos (by rfl)]
          go_simp
          refine hK.out _ _ trivial (fun _ => ?_)
          clear hK K
          refine wpAnyH_ready (rs := [10]) (by kernel_rfl) (by simp) ?_
          refine AllReadyH.cons rfl (fun K hK => ?_) AllReadyH.nil
          rw [if_pos (by rfl)]
          go_simp
          refine hK.out _ _ trivial (fun _ => ?_)
          clear hK K
          refine wpAnyH_done (by kernel_rfl) ?_ _
          go_wp2_with fail
          exact bodyPost_ret (v := .tuple #[.slice a3 L.length c3, .string s, .int .i64 y7]) (by simp [results, Try.results35, go_sem]) rfl ⟨⟨_, L, s, y7, rfl, hg.lower hz12, hf3, hs8⟩, hb1.trans (hB.below (Nat.le_refl _) hb1.size)⟩
      · rw [if_pos (by rfl)]
        go_simp
        refine hK.out _ _ trivial (fun _ => ?_)
        clear hK K
        refine wpAnyH_ready (rs := [1]) (by kernel_rfl) (by simp) ?_
        refine AllReadyH.cons rfl (fun K hK => ?_) AllReadyH.nil
        rw [if_pos (by rfl)]
        go_simp
        have hbA : Below W.heap.size W (W.alloc (.cells #[.string ⟨#[119]⟩, .string ⟨#[120]⟩, .string ⟨#[121]⟩, .string ⟨#[122]⟩, .string ⟨#[118]⟩] 9)) := (Below.refl _ _).alloc (Nat.le_refl _) _
        have htab : ∀ k, k < 5 → ∃ s : ByteArray, (W.alloc (.cells #[.string ⟨#[119]⟩, .string ⟨#[120]⟩, .string ⟨#[121]⟩, .string ⟨#[122]⟩, .string ⟨#[118]⟩] 9)).cell? ⟨W.heap.size, k, none⟩ = some (.string s) ∧ s.size ≤ 8 := tab5 W
        have htb : w.heap.size ≠ W.heap.size := by have := hr.lt; omega
        replace hr := hr.below hbA
        replace hg := hg.keep hbA
        replace hB := hB.trans (But.of_below hbA)
        refine hK.out _ _ trivial (fun _ => ?_)
        clear hK K hbA
        generalize W.heap.size = tb at *
        generalize W.alloc (.cells #[.string ⟨#[119]⟩, .string ⟨#[120]⟩, .string ⟨#[121]⟩, .string ⟨#[122]⟩, .string ⟨#[118]⟩] 9) = W at *
        refine wpAnyH_take (i := 4) (v := .pointer (some ⟨tb, j, none⟩)) rfl (by kernel_rfl) (by kernel_rfl) (by kernel_rfl) (fun _ _ _ h => h) (Or.inl ⟨by rfl, ?_⟩) trivial ?_
        · rintro u _
          go_simp
        simp only [Act.put, List.setIfInBounds_toArray]
        refine wpAnyH_ready (rs := [5]) (by kernel_rfl) (by simp) ?_
        refine AllReadyH.cons rfl (fun K hK => ?_) AllReadyH.nil
        rw [if_pos (by rfl)]
        obtain ⟨s, e5, hs8⟩ := htab j hj5
        go_simp
        refine hK.out _ _ trivial (fun _ => ?_)
        clear hK K
        refine wpAnyH_ready (rs := [9]) (by kernel_rfl) (by simp) ?_
        refine AllReadyH.cons rfl (fun K hK => ?_) AllReadyH.nil
        rw [if_pos (by rfl)]
        go_simp
        refine hK.out _ _ trivial (fun _ => ?_)
        clear hK K
        refine wpAnyH_ready (rs := [10]) (by kernel_rfl) (by simp) ?_
        refine AllReadyH.cons rfl (fun K hK => ?_) AllReadyH.nil
        rw [if_pos (by rfl)]
        go_simp
        refine hK.out _ _ trivial (fun _ => ?_)
        clear hK K
        refine wpAnyH_done (by kernel_rfl) ?_ _
        go_wp2_with fail
        exact bodyPost_ret (v := .tuple #[.slice a3 L.length c3, .string s, .int .i64 y7]) (by simp [results, Try.results35, go_sem]) rfl ⟨⟨_, L, s, y7, rfl, hg.lower hz12, hf3, hs8⟩, hb1.trans (hB.below (Nat.le_refl _) hb1.size)⟩

end Go.Proofs.Ytpfhegengmlkmaa
/- Walks: spec.WindowFind, impl.WindowFind. -/
namespace Go.Proofs.Ytpfhegengmlkmaa
open Go.RowKit Go.BigFrame
set_option maxRecDepth 100000

/-- Has the item the source, with at most that version? -/
def HitP (m : List (ByteArray × Int)) (s : ByteArray) (n : Int) : Prop := 0 < getM m s ∧ getM m s ≤ n
/-- The last of the first k places that hit; -1 where there is none. -/
def IsF (l : List ItemL) (s : ByteArray) (n : Int) (r : Int) : Prop :=
  (WinP l → (r = -1 ∧ ∀ j, (h : j < l.length) → ¬ HitP l[j].2 s n) ∨ ∃ k, ∃ h : k < l.length, r = (k : Int) ∧ HitP l[k].2 s n ∧ ∀ j, (hj : j < l.length) → k < j → ¬ HitP l[j].2 s n) ∧ (¬ WinP l → r = -1)
theorem IsF.one {l : List ItemL} {s : ByteArray} {n r r' : Int} (h : IsF l s n r) (h' : IsF l s n r') : r = r' := by
  by_cases hp : WinP l
  · rcases h.1 hp with ⟨e, h1⟩ | ⟨k, hk, e, h1, h2⟩ <;> rcases h'.1 hp with ⟨e', h1'⟩ | ⟨k', hk', e', h1', h2'⟩
    · omega
    · exact absurd h1' (h1 k' hk')
    · exact absurd h1 (h1' k hk)
    · rcases Nat.lt_trichotomy k k' with q | q | q
      · exact absurd h1' (h2 k' hk' q)
      · omega
      · exact absurd h1 (h2' k hk q)
  · rw [h.2 hp, h'.2 hp]
/-- None of the places from k on hits. -/
def NoneP (l : List ItemL) (s : ByteArray) (n : Int) (k : Nat) : Prop := ∀ j, (h : j < l.length) → k ≤ j → ¬ HitP l[j].2 s n
theorem none_step {l : List ItemL} {s : ByteArray} {n : Int} {k : Nat} (h : NoneP l s n (k + 1)) (hk : k < l.length) (hn : ¬ HitP l[k].2 s n) : NoneP l s n k := fun j hj hle => by
  by_cases e : j = k
  · subst e; exact hn
  · exact h j hj (by omega)
theorem none_hit {l : List ItemL} {s : ByteArray} {n : Int} {k : Nat} (h : NoneP l s n (k + 1)) (hk : k < l.length) (hp : WinP l) (hn : HitP l[k].2 s n) : IsF l s n (k : Int) :=
  ⟨fun _ => .inr ⟨k, hk, rfl, hn, fun j hj hlt => h j hj (by omega)⟩, fun h => absurd hp h⟩
theorem none_all {l : List ItemL} {s : ByteArray} {n : Int} (h : NoneP l s n 0) (hp : WinP l) : IsF l s n (-1) :=
  ⟨fun _ => .inl ⟨rfl, fun j hj => h j hj (Nat.zero_le _)⟩, fun h => absurd hp h⟩

set_option maxHeartbeats 1600000 in
theorem specFind_any (a : Option Addr) (cap : Nat) (l : List ItemL) (s : ByteArray) (n : Int) (w : World) (hf : FitI l) (hr : RowI w a l) :
    Calls Try.prog 37 #[.slice a l.length cap, .string s, .int .i64 n] w fun e w' => (∃ r, e = .returned (.int .i64 r) ∧ IsF l s n r) ∧ Below w.heap.size w w' := by
  have hl := hf.1
  unfold maxLen at hl
  go_enter Try.func37, Try.ntmps37
  go_wp2_with fail
  refine (specWinOk_any a cap l _ hf hr).mono ?_
  rintro e w1 ⟨⟨r, rfl, hr1⟩, b1⟩
  have HR : Hid (r = true ↔ WinP l) := hr1
  clear hr1
  cases r
  · have HN : Hid (¬ WinP l) := fun h => by simpa using HR.out.2 h
    clear HR
    go_wp2_with fail
    go_ret
    exact ⟨⟨-1, rfl, fun h => absurd h HN.out, fun _ => rfl⟩, b1⟩
  · have HP : Hid (WinP l) := HR.out.1 rfl
    clear HR
    go_wp2_with fail
    go_loopw [7] (fun i wr => ∃ k : Nat, k ≤ l.length ∧ i = .int .i64 ((k : Int) - 1) ∧ Hid (NoneP l s n k) ∧ Below w.heap.size w wr) (fun i _ => (intOf i + 1).toNat)
    case atStart => exact ⟨l.length, Nat.le_refl _, rfl, fun j hj hle => by omega, b1⟩
    case round =>
      obtain ⟨k, hk, rfl, HI, hb⟩ := hrel
      by_cases hlt : 0 < k
      · obtain ⟨q, rfl⟩ : ∃ q, k = q + 1 := ⟨k - 1, by omega⟩
        have hq : q < l.length := by omega
        obtain ⟨b, o, rfl, hblt, c0, v, c1, hv⟩ := hr.below hb q hq
        obtain ⟨sa, sc, rfl, hcap, hrow⟩ := hv
        have eq : (((q + 1 : Nat) : Int) - 1) = (q : Int) := by omega
        rw [eq]
        have k0 : (0 : Int) ≤ (q : Int) := by omega
        have k1 : (q : Int) < (l.length : Int) := by omega
        have hlk := (hf.2 q hq).1
        clear eq
        go_wp2_with fail
        refine (l1Get_any sa sc l[q].2 s _ hlk hrow).mono ?_
        rintro e w2 ⟨rfl, rfl⟩
        have HH : Hid (HitP l[q].2 s n → IsF l s n (q : Int)) := fun h => none_hit HI.out hq HP.out h
        have HS : Hid (¬ HitP l[q].2 s n → NoneP l s n q) := fun h => none_step HI.out hq h
        generalize hg : getM l[q].2 s = g at *
        have HG : Hid (HitP l[q].2 s n ↔ 0 < g ∧ g ≤ n) := by unfold Hid HitP; rw [hg]
        clear hg HI
        by_cases h1 : 0 < g
        · by_cases h2 : g ≤ n
          · go_wp2_with fail
            go_ret
            exact ⟨⟨_, rfl, HH.out (HG.out.2 ⟨h1, h2⟩)⟩, hb⟩
          · go_wp2_with fail
            exact ⟨⟨q, by omega, rfl, HS.out (fun h => by have := HG.out.1 h; omega), hb⟩, by simp [intOf]⟩
        · go_wp2_with fail
          exact ⟨⟨q, by omega, rfl, HS.out (fun h => by have := HG.out.1 h; omega), hb⟩, by simp [intOf]⟩
      · obtain rfl : k = 0 := by omega
        have HF : Hid (IsF l s n (-1)) := none_all HI.out HP.out
        go_wp2_with fail
        go_ret
        exact ⟨⟨-1, rfl, HF.out⟩, hb⟩

set_option maxHeartbeats 1600000 in
theorem implFind_any (a : Option Addr) (cap : Nat) (l : List ItemL) (s : ByteArray) (n : Int) (w : World) (hf : FitI l) (hr : RowI w a l) :
    Calls Try.prog 36 #[.slice a l.length cap, .string s, .int .i64 n] w fun e w' => (∃ r, e = .returned (.int .i64 r) ∧ IsF l s n r) ∧ Below w.heap.size w w' := by
  have hl := hf.1
  unfold maxLen at hl
  go_enter Try.func36, Try.ntmps36
  go_wp2_with fail
  refine (readWindow_any a cap l _ hf hr).mono ?_
  rintro e w1 ⟨hE, b1⟩
  rcases hE with ⟨v, rfl, hp, hv⟩ | ⟨v, rfl, hp, hv⟩
  · have HP : Hid (WinP l) := hp
    clear hp
    obtain ⟨x0, x1, x2, x3, a0, a1, a2, a3, n0, n1, n2, n3, c0, c1, c2, c3, rfl, hw⟩ := hv.laid
    have hW := hw w1 b1.size
    have B1 := b1.alloc b1.size (.cells #[.int .i64 x0, .slice a0 n0 c0, .int .i64 x1, .slice a1 n1 c1, .int .i64 x2, .slice a2 n2 c2, .int .i64 x3, .slice a3 n3 c3, .int .i64 0, .int .i64 l.length] 82)
    clear hw hv
    go_wp2_with fail
    generalize w1.alloc (.cells #[.int .i64 x0, .slice a0 n0 c0, .int .i64 x1, .slice a1 n1 c1, .int .i64 x2, .slice a2 n2 c2, .int .i64 x3, .slice a3 n3 c3, .int .i64 0, .int .i64 l.length] 82) = W1 at *
    refine (size_any w W1 _ 0 l hW).mono ?_
    rintro e w2 ⟨rfl, rfl⟩
    go_wp2_with fail
    clear hr
    generalize w1.heap.size = bq at *
    go_loopw [9] (fun i wr => ∃ k : Nat, k ≤ l.length ∧ i = .int .i64 ((k : Int) - 1) ∧ Hid (NoneP l s n k) ∧ WinB w wr bq 0 l ∧ Below w.heap.size w wr) (fun i _ => (intOf i + 1).toNat)
    case atStart => exact ⟨l.length, Nat.le_refl _, rfl, fun j hj hle => by omega, hW, B1⟩
    case round =>
      obtain ⟨k, hk, rfl, HI, hWr, hb⟩ := hrel
      clear hW B1 b1
      by_cases hlt : 0 < k
      · obtain ⟨q, rfl⟩ : ∃ q, k = q + 1 := ⟨k - 1, by omega⟩
        have hq : q < l.length := by omega
        have eq : (((q + 1 : Nat) : Int) - 1) = (q : Int) := by omega
        rw [eq]
        have k0 : (0 : Int) ≤ (q : Int) := by omega
        have k1 : (q : Int) < (l.length : Int) := by omega
        have fq := hf.2 q hq
        have hzr := hb.size
        have HSP : Hid (StampP l[q].2) := (HP.out.2.1 q hq).1
        have HH : Hid (HitP l[q].2 s n → IsF l s n (q : Int)) := fun h => none_hit HI.out hq HP.out h
        have HS : Hid (¬ HitP l[q].2 s n → NoneP l s n q) := fun h => none_step HI.out hq h
        clear eq HI
        go_wp2_with fail
        refine (at_any w wr bq 0 l q hWr hq).mono ?_
        rintro e w2 ⟨⟨v, rfl, sa, sc, rfl, hcap, hrow⟩, b2⟩
        have B2 : Below w.heap.size w w2 := hb.trans (b2.mono hzr)
        have hW2 := hWr.below b2
        have hfd := field_stamp l[q].1 sa l[q].2.length sc
        clear hWr b2 hb
        go_wp2_with fail
        refine (implGet_any sa sc l[q].2 s _ fq.1 (hrow.below B2) fq.2).mono ?_
        rintro e w3 ⟨⟨g, rfl, hg⟩, b3⟩
        have HG : Hid (HitP l[q].2 s n ↔ 0 < g ∧ g ≤ n) := by unfold Hid HitP; rw [hg.1 HSP.out]
        have B3 : Below w.heap.size w w3 := B2.trans (b3.mono B2.size)
        have hW3 := hW2.below b3
        clear hg hW2 b3 B2
        by_cases h1 : 0 < g
        · by_cases h2 : g ≤ n
          · go_wp2_with fail
            go_ret
            exact ⟨⟨_, rfl, HH.out (HG.out.2 ⟨h1, h2⟩)⟩, B3⟩
          · go_wp2_with fail
            exact ⟨⟨q, by omega, rfl, HS.out (fun h => by have := HG.out.1 h; omega), hW3, B3⟩, by simp [intOf]⟩
        · go_wp2_with fail
          exact ⟨⟨q, by omega, rfl, HS.out (fun h => by have := HG.out.1 h; omega), hW3, B3⟩, by simp [intOf]⟩
      · obtain rfl : k = 0 := by omega
        have HF : Hid (IsF l s n (-1)) := none_all HI.out HP.out
        go_wp2_with fail
        go_ret
        exact ⟨⟨-1, rfl, HF.out⟩, hb⟩
  · have HP : Hid (¬ WinP l) := hp
    clear hp
    obtain ⟨x0, x1, x2, x3, a0, a1, a2, a3, n0, n1, n2, n3, c0, c1, c2, c3, rfl, _⟩ := hv.laid
    go_wp2_with fail
    go_ret
    exact ⟨⟨-1, rfl, fun h => absurd h HP.out, fun _ => rfl⟩, b1.alloc b1.size _⟩

end Go.Proofs.Ytpfhegengmlkmaa
/- The walk of the law FnWindowFind. -/
namespace Go.Proofs.Ytpfhegengmlkmaa
open Go.RowKit Go.BigFrame
set_option maxRecDepth 100000

theorem isF_le {l : List ItemL} {s : ByteArray} {n r : Int} (h : IsF l s n r) : -1 ≤ r ∧ r < (l.length : Int) := by
  by_cases hp : WinP l
  · rcases h.1 hp with ⟨e, _⟩ | ⟨k, hk, e, _⟩ <;> omega
  · rw [h.2 hp]; omega
/-- What is behind the place that is told has more. -/
theorem isF_behind {l : List ItemL} {s : ByteArray} {n : Int} {k : Nat} (h : IsF l s n (k : Int)) : WinP l ∧ ∃ hk : k < l.length, getM l[k].2 s ≤ n ∧ ∀ j, (hj : j < l.length) → k < j → n < getM l[j].2 s := by
  by_cases hp : WinP l
  · refine ⟨hp, ?_⟩
    rcases h.1 hp with ⟨e, _⟩ | ⟨k', hk, e, h1, h2⟩
    · omega
    · obtain rfl : k = k' := by omega
      refine ⟨hk, h1.2, fun j hj hlt => ?_⟩
      have h3 := h2 j hj hlt
      have h4 := (hp.same hk hj s).1 h1.1
      unfold HitP at h3
      omega
  · have := h.2 hp
    omega

set_option maxHeartbeats 6400000 in
theorem lawWFind_draw (ab : Option Addr) (n c : Nat) (w : World) (h : Bytes w ab n c) (hn : n ≤ maxLen) :
    Calls Try.prog 8 #[.slice ab n c] w fun e w' => e = .returned (.bool true) ∧ Below w.heap.size w w' := by
  unfold maxLen at hn
  by_cases hbig : 1048576 < n
  · have hbig' : decide ((1048576 : Int) < (n : Int)) = true := decide_eq_true (by omega)
    go_enter Try.func8, Try.ntmps8
    go_wp2_with fail
    go_ret
    exact ⟨rfl, Below.refl _ _⟩
  have hbig' : decide ((1048576 : Int) < (n : Int)) = false := decide_eq_false (by omega)
  go_enter Try.func8, Try.ntmps8
  go_wp2_with fail
  refine (drawWFind_any ab n c _ h).mono ?_
  rintro e w1 ⟨⟨v, L, s, ver, rfl, hg1, hf1, hs8⟩, B1⟩
  obtain ⟨a, cap, rfl, hcap, hr1, _⟩ := hg1.form
  have hfit := hf1.fit (by omega)
  generalize hl : L.map (·.1) = l at *
  have hLl : L.length = l.length := by rw [← hl, List.length_map]
  rw [hLl]
  rw [hLl] at hcap
  have hlen : l.length ≤ 6 := hf1.1
  clear hg1 h hl hLl
  go_wp2_with fail
  refine (implFind_any a cap l s ver _ hfit hr1).mono ?_
  rintro e w2 ⟨⟨r, rfl, hF⟩, b2⟩
  have B2 : Below w.heap.size w w2 := B1.trans (b2.mono B1.size)
  have hr2 := hr1.below b2
  have HF : Hid (IsF l s ver r) := hF
  have hrr := isF_le hF
  clear b2 B1 hr1 hF
  go_wp2_with fail
  refine (specFind_any a cap l s ver _ hfit hr2).mono ?_
  rintro e w3 ⟨⟨r', rfl, hF'⟩, b3⟩
  obtain rfl : r = r' := HF.out.one hF'
  have B3 : Below w.heap.size w w3 := B2.trans (b3.mono B2.size)
  have hr3 := hr2.below b3
  obtain ⟨hrr1, hrr2⟩ := hrr
  clear b3 B2 hr2 hF'
  by_cases hneg : r < 0
  · obtain rfl : r = -1 := by omega
    go_wp2_with fail
    go_ret
    exact ⟨rfl, B3⟩
  obtain ⟨k, rfl⟩ := Int.eq_ofNat_of_zero_le (Int.not_lt.1 hneg)
  obtain ⟨hp, hk, hle, hbeh⟩ := isF_behind HF.out
  have HP : Hid (WinP l) := hp
  have HB : Hid (∀ j, (hj : j < l.length) → k < j → ver < getM l[j].2 s) := hbeh
  have HSP : Hid (∀ j, (hj : j < l.length) → StampP l[j].2) := fun j hj => (hp.2.1 j hj).1
  obtain ⟨b, o, rfl, hblt, c0, vv, c1, ⟨sa, sc, rfl, _, r3⟩⟩ := hr3 k hk
  have k0 : (0 : Int) ≤ (k : Int) := by omega
  have k1 : (k : Int) < (l.length : Int) := by omega
  have fk := hfit.2 k hk
  clear hp hbeh HF
  go_wp2_with fail
  refine (implGet_any sa sc l[k].2 s _ fk.1 r3 fk.2).mono ?_
  rintro e w4 ⟨⟨g, rfl, hg⟩, b4⟩
  have hgv : g ≤ ver := by rw [hg.1 (HSP.out k hk)]; exact hle
  have B4 : Below w.heap.size w w4 := B3.trans (b4.mono B3.size)
  have hr4 := hr3.below b4
  clear hg b4 B3 hr3 r3 hle c0 c1 hblt
  go_wp2_with fail
  go_loopw [7] (fun i wr => ∃ j : Nat, k < j ∧ j ≤ l.length ∧ i = .int .i64 j ∧ RowI wr (some ⟨b, o, none⟩) l ∧ Below w.heap.size w wr) (fun i _ => l.length - (intOf i).toNat)
  case atStart => exact ⟨k + 1, by omega, by omega, rfl, hr4, B4⟩
  case round =>
    obtain ⟨j, hkj, hj, rfl, hr5, B5⟩ := hrel
    clear hr4 B4
    by_cases hlt : j < l.length
    · obtain ⟨b', o', hbo, hblt, c0, vv, c1, ⟨sa, sc, rfl, _, r5⟩⟩ := hr5 j hlt
      obtain ⟨rfl, rfl⟩ : b = b' ∧ o = o' := by simpa using hbo
      have j0 : (0 : Int) ≤ (j : Int) := by omega
      have j1 : (j : Int) < (l.length : Int) := by omega
      have fj := hfit.2 j hlt
      go_wp2_with fail
      refine (implGet_any sa sc l[j].2 s _ fj.1 r5 fj.2).mono ?_
      rintro e w6 ⟨⟨g', rfl, hg'⟩, b6⟩
      have hgv' : ver < g' := by rw [hg'.1 (HSP.out j hlt)]; exact HB.out j hlt hkj
      have B6 : Below w.heap.size w w6 := B5.trans (b6.mono B5.size)
      have hr6 := hr5.below b6
      clear hg' b6 B5 hr5 r5 c0 c1 hblt
      go_wp2_with fail
      exact ⟨⟨j + 1, by omega, by omega, by go_num, hr6, B6⟩, by simp [intOf]; omega⟩
    · go_wp2_with fail
      go_ret
      exact ⟨rfl, B5⟩

end Go.Proofs.Ytpfhegengmlkmaa
