/- Walk: DrawWindowFind (written by gen_drawf.py). -/
import Derived.Test.YtlhdjbepjfojbaaDrawW
namespace Go.Proofs.Ytlhdjbepjfojbaa
open Go.RowKit Go.BigFrame
set_option maxRecDepth 100000

theorem tab5 (w : World) : ∀ k, k < 5 → ∃ s : ByteArray, (w.alloc (.cells #[.string ⟨#[119]⟩, .string ⟨#[120]⟩, .string ⟨#[121]⟩, .string ⟨#[122]⟩, .string ⟨#[118]⟩] 9)).cell? ⟨w.heap.size, k, none⟩ = some (.string s) ∧ s.size ≤ 8 := fun k hk => by
  rcases (by omega : k = 0 ∨ k = 1 ∨ k = 2 ∨ k = 3 ∨ k = 4) with rfl | rfl | rfl | rfl | rfl <;> exact ⟨_, by simp [go_sem]; rfl, by decide⟩

set_option maxHeartbeats 12800000 in
theorem drawWFind_any (ab : Option Addr) (n c : Nat) (w : World) (h : Bytes w ab n c) :
    Calls Try.prog 35 #[.slice ab n c] w fun e w' => (∃ v L s ver, e = .returned (.tuple #[v, .string s, .int .i64 ver]) ∧ GathJ w' w.heap.size v L ∧ FewI 6 (L.map (·.1)) ∧ s.size ≤ 8) ∧ Below w.heap.size w w' := by
  go_enter Try.func35, Try.ntmps35
  go_wp2_with fail
  refine (l1Open_any ab n c _ h).mono ?_
  rintro e w1 ⟨⟨m, rfl, hr1⟩, hb1⟩
  have hR := hr1.lt
  go_wp2_with fail
  refine (pick_any _ m c 0 ab 15 _ hr1 (by omega) (by omega) (by omega)).mono ?_
  rintro e w2 ⟨⟨y, rfl, hy0, hy1⟩, hr2, hb2⟩
  have hB2 : But w.heap.size w1 w2 := hb2
  clear hb2 hr1 h
  go_wp2_with fail
  refine (l6Window_any _ m c (0 + 1) ab _ w2 hr2 (by omega)).mono ?_
  rintro e w3 ⟨⟨v, L, p3, rfl, hg3, hf3, hr3, hp3⟩, hb3⟩
  have hB3 : But w.heap.size w1 w3 := hB2.trans hb3
  have hz2 := hB2.size
  have hz12 : w.heap.size ≤ w2.heap.size := by omega
  have hz0 : w.heap.size < w2.heap.size := hr2.lt
  obtain ⟨a3, c3, rfl, _, _, _⟩ := hg3.form
  clear hb3 hB2 hr2
  go_wp2_with fail
  have hbd : Below w3.heap.size w3 w3.drew := (Below.refl _ _).drew
  have hr := hr3.below hbd
  have hg := hg3.keep hbd
  have hB : But w.heap.size w1 w3.drew := hB3.trans (But.of_below hbd)
  clear hr3 hg3 hB3 hbd
  refine wp_region_held_drew (S := fun _ => True) (by kernel_rfl) trivial (fun _ => ?_)
  generalize w3.drew = W at *
  refine wpAnyH_take (i := 0) (v := .slice a3 L.length c3) rfl (by kernel_rfl) (by kernel_rfl) (by kernel_rfl) (fun _ _ _ h => h) (Or.inl ⟨by rfl, ?_⟩) trivial ?_
  · rintro u _
    go_simp
  simp only [Act.put, List.setIfInBounds_toArray]
  refine wpAnyH_take (i := 2) (v := .pointer (some ⟨w.heap.size, 0, none⟩)) rfl (by kernel_rfl) (by kernel_rfl) (by kernel_rfl) (fun _ _ _ h => h) (Or.inl ⟨by rfl, ?_⟩) trivial ?_
  · rintro u _
    go_simp
  simp only [Act.put]
  refine wpAnyH_take (i := 6) (v := .pointer (some ⟨w.heap.size, 0, none⟩)) rfl (by kernel_rfl) (by kernel_rfl) (by kernel_rfl) (fun _ _ _ h => h) (Or.inl ⟨by rfl, ?_⟩) trivial ?_
  · rintro u _
    go_simp
  simp only [Act.put]
  refine wpAnyH_ready (rs := [1, 3]) (by kernel_rfl) (by simp) ?_
  refine AllReadyH.cons rfl (fun K hK => ?_) (AllReadyH.cons rfl (fun K hK => ?_) AllReadyH.nil)
  · rw [if_pos (by rfl)]
    go_simp
    have hbA : Below W.heap.size W (W.alloc (.cells #[.string ⟨#[119]⟩, .string ⟨#[120]⟩, .string ⟨#[121]⟩, .string ⟨#[122]⟩, .string ⟨#[118]⟩] 9)) := (Below.refl _ _).alloc (Nat.le_refl _) _
    have htab : ∀ k, k < 5 → ∃ s : ByteArray, (W.alloc (.cells #[.string ⟨#[119]⟩, .string ⟨#[120]⟩, .string ⟨#[121]⟩, .string ⟨#[122]⟩, .string ⟨#[118]⟩] 9)).cell? ⟨W.heap.size, k, none⟩ = some (.string s) ∧ s.size ≤ 8 := tab5 W
    have htb : w.heap.size ≠ W.heap.size := by have := hr.lt; omega
    replace hr := hr.below hbA
    replace hg := hg.keep hbA
    replace hB := hB.trans (But.of_below hbA)
    refine hK.out _ _ trivial (fun _ => ?_)
    clear hK K hbA
    generalize W.heap.size = tb at *
    generalize W.alloc (.cells #[.string ⟨#[119]⟩, .string ⟨#[120]⟩, .string ⟨#[121]⟩, .string ⟨#[122]⟩, .string ⟨#[118]⟩] 9) = W at *
    refine wpAnyH_ready (rs := [3]) (by kernel_rfl) (by simp) ?_
    refine AllReadyH.cons rfl (fun K hK => ?_) AllReadyH.nil
    rw [if_pos (by rfl)]
    go_simp
    refine (pick_any _ m c _ ab 5 _ hr (by omega) (by omega) (by omega)).mono ?_
    rintro e W ⟨⟨y3, rfl, hy30, hy31⟩, hr2, hb2⟩
    replace hg := hg.but hb2 hz0
    replace hB := hB.trans hb2
    replace htab : ∀ k, k < 5 → ∃ s : ByteArray, W.cell? ⟨tb, k, none⟩ = some (.string s) ∧ s.size ≤ 8 := fun k hk => by
      obtain ⟨s, e, hs⟩ := htab k hk
      exact ⟨s, (hb2.cell (b := tb) k (block_lt_of_cell e) (Ne.symm htb)).trans e, hs⟩
    refine hK.out _ _ trivial (fun _ => ?_)
    clear hK K hr hb2
    have hr := hr2
    clear hr2
    obtain ⟨j, rfl⟩ := Int.eq_ofNat_of_zero_le hy30
    have hj5 : j < 5 := by omega
    refine wpAnyH_take (i := 4) (v := .pointer (some ⟨tb, j, none⟩)) rfl (by kernel_rfl) (by kernel_rfl) (by kernel_rfl) (fun _ _ _ h => h) (Or.inl ⟨by rfl, ?_⟩) trivial ?_
    · rintro u _
      go_simp
    simp only [Act.put, List.setIfInBounds_toArray]
    refine wpAnyH_ready (rs := [5, 7]) (by kernel_rfl) (by simp) ?_
    refine AllReadyH.cons rfl (fun K hK => ?_) (AllReadyH.cons rfl (fun K hK => ?_) AllReadyH.nil)
    · rw [if_pos (by rfl)]
      obtain ⟨s, e5, hs8⟩ := htab j hj5
      go_simp
      refine hK.out _ _ trivial (fun _ => ?_)
      clear hK K
      refine wpAnyH_ready (rs := [7]) (by kernel_rfl) (by simp) ?_
      refine AllReadyH.cons rfl (fun K hK => ?_) AllReadyH.nil
      rw [if_pos (by rfl)]
      go_simp
      refine (pick_any _ m c _ ab 8 _ hr (by omega) (by omega) (by omega)).mono ?_
      rintro e W ⟨⟨y7, rfl, hy70, hy71⟩, hr2, hb2⟩
      replace hg := hg.but hb2 hz0
      replace hB := hB.trans hb2
      refine hK.out _ _ trivial (fun _ => ?_)
      clear hK K hr hb2
      have hr := hr2
      clear hr2
      refine wpAnyH_ready (rs := [8]) (by kernel_rfl) (by simp) ?_
      refine AllReadyH.cons rfl (fun K hK => ?_) AllReadyH.nil
      rw [if_pos (by rfl)]
      go_simp
      refine hK.out _ _ trivial (fun _ => ?_)
      clear hK K
      refine wpAnyH_ready (rs := [9]) (by kernel_rfl) (by simp) ?_
      refine AllReadyH.cons rfl (fun K hK => ?_) AllReadyH.nil
      rw [if_pos (by rfl)]
      go_simp
      refine hK.out _ _ trivial (fun _ => ?_)
      clear hK K
      refine wpAnyH_ready (rs := [10]) (by kernel_rfl) (by simp) ?_
      refine AllReadyH.cons rfl (fun K hK => ?_) AllReadyH.nil
      rw [if_pos (by rfl)]
      go_simp
      refine hK.out _ _ trivial (fun _ => ?_)
      clear hK K
      refine wpAnyH_done (by kernel_rfl) ?_ _
      go_wp2_with fail
      exact bodyPost_ret (v := .tuple #[.slice a3 L.length c3, .string s, .int .i64 y7]) (by simp [results, Try.results35, go_sem]) rfl ⟨⟨_, L, s, y7, rfl, hg.lower hz12, hf3, hs8⟩, hb1.trans (hB.below (Nat.le_refl _) hb1.size)⟩
    · rw [if_pos (by rfl)]
      go_simp
      refine (pick_any _ m c _ ab 8 _ hr (by omega) (by omega) (by omega)).mono ?_
      rintro e W ⟨⟨y7, rfl, hy70, hy71⟩, hr2, hb2⟩
      replace hg := hg.but hb2 hz0
      replace hB := hB.trans hb2
      replace htab : ∀ k, k < 5 → ∃ s : ByteArray, W.cell? ⟨tb, k, none⟩ = some (.string s) ∧ s.size ≤ 8 := fun k hk => by
        obtain ⟨s, e, hs⟩ := htab k hk
        exact ⟨s, (hb2.cell (b := tb) k (block_lt_of_cell e) (Ne.symm htb)).trans e, hs⟩
      refine hK.out _ _ trivial (fun _ => ?_)
      clear hK K hr hb2
      have hr := hr2
      clear hr2
      refine wpAnyH_ready (rs := [5, 8]) (by kernel_rfl) (by simp) ?_
      refine AllReadyH.cons rfl (fun K hK => ?_) (AllReadyH.cons rfl (fun K hK => ?_) AllReadyH.nil)
      · rw [if_pos (by rfl)]
        obtain ⟨s, e5, hs8⟩ := htab j hj5
        go_simp
        refine hK.out _ _ trivial (fun _ => ?_)
        clear hK K
        refine wpAnyH_ready (rs := [8]) (by kernel_rfl) (by simp) ?_
        refine AllReadyH.cons rfl (fun K hK => ?_) AllReadyH.nil
        rw [if_pos (by rfl)]
        go_simp
        refine hK.out _ _ trivial (fun _ => ?_)
        clear hK K
        refine wpAnyH_ready (rs := [9]) (by kernel_rfl) (by simp) ?_
        refine AllReadyH.cons rfl (fun K hK => ?_) AllReadyH.nil
        rw [if_pos (by rfl)]
        go_simp
        refine hK.out _ _ trivial (fun _ => ?_)
        clear hK K
        refine wpAnyH_ready (rs := [10]) (by kernel_rfl) (by simp) ?_
        refine AllReadyH.cons rfl (fun K hK => ?_) AllReadyH.nil
        rw [if_pos (by rfl)]
        go_simp
        refine hK.out _ _ trivial (fun _ => ?_)
        clear hK K
        refine wpAnyH_done (by kernel_rfl) ?_ _
        go_wp2_with fail
        exact bodyPost_ret (v := .tuple #[.slice a3 L.length c3, .string s, .int .i64 y7]) (by simp [results, Try.results35, go_sem]) rfl ⟨⟨_, L, s, y7, rfl, hg.lower hz12, hf3, hs8⟩, hb1.trans (hB.below (Nat.le_refl _) hb1.size)⟩
      · rw [if_pos (by rfl)]
        go_simp
        refine hK.out _ _ trivial (fun _ => ?_)
        clear hK K
        refine wpAnyH_ready (rs := [5]) (by kernel_rfl) (by simp) ?_
        refine AllReadyH.cons rfl (fun K hK => ?_) AllReadyH.nil
        rw [if_pos (by rfl)]
        obtain ⟨s, e5, hs8⟩ := htab j hj5
        go_simp
        refine hK.out _ _ trivial (fun _ => ?_)
        clear hK K
        refine wpAnyH_ready (rs := [9]) (by kernel_rfl) (by simp) ?_
        refine AllReadyH.cons rfl (fun K hK => ?_) AllReadyH.nil
        rw [if_pos (by rfl)]
        go_simp
        refine hK.out _ _ trivial (fun _ => ?_)
        clear hK K
        refine wpAnyH_ready (rs := [10]) (by kernel_rfl) (by simp) ?_
        refine AllReadyH.cons rfl (fun K hK => ?_) AllReadyH.nil
        rw [if_pos (by rfl)]
        go_simp
        refine hK.out _ _ trivial (fun _ => ?_)
        clear hK K
        refine wpAnyH_done (by kernel_rfl) ?_ _
        go_wp2_with fail
        exact bodyPost_ret (v := .tuple #[.slice a3 L.length c3, .string s, .int .i64 y7]) (by simp [results, Try.results35, go_sem]) rfl ⟨⟨_, L, s, y7, rfl, hg.lower hz12, hf3, hs8⟩, hb1.trans (hB.below (Nat.le_refl _) hb1.size)⟩
  · rw [if_pos (by rfl)]
    go_simp
    refine (pick_any _ m c _ ab 5 _ hr (by omega) (by omega) (by omega)).mono ?_
    rintro e W ⟨⟨y3, rfl, hy30, hy31⟩, hr2, hb2⟩
    replace hg := hg.but hb2 hz0
    replace hB := hB.trans hb2
    refine hK.out _ _ trivial (fun _ => ?_)
    clear hK K hr hb2
    have hr := hr2
    clear hr2
    obtain ⟨j, rfl⟩ := Int.eq_ofNat_of_zero_le hy30
    have hj5 : j < 5 := by omega
    refine wpAnyH_ready (rs := [1, 7]) (by kernel_rfl) (by simp) ?_
    refine AllReadyH.cons rfl (fun K hK => ?_) (AllReadyH.cons rfl (fun K hK => ?_) AllReadyH.nil)
    · rw [if_pos (by rfl)]
      go_simp
      have hbA : Below W.heap.size W (W.alloc (.cells #[.string ⟨#[119]⟩, .string ⟨#[120]⟩, .string ⟨#[121]⟩, .string ⟨#[122]⟩, .string ⟨#[118]⟩] 9)) := (Below.refl _ _).alloc (Nat.le_refl _) _
      have htab : ∀ k, k < 5 → ∃ s : ByteArray, (W.alloc (.cells #[.string ⟨#[119]⟩, .string ⟨#[120]⟩, .string ⟨#[121]⟩, .string ⟨#[122]⟩, .string ⟨#[118]⟩] 9)).cell? ⟨W.heap.size, k, none⟩ = some (.string s) ∧ s.size ≤ 8 := tab5 W
      have htb : w.heap.size ≠ W.heap.size := by have := hr.lt; omega
      replace hr := hr.below hbA
      replace hg := hg.keep hbA
      replace hB := hB.trans (But.of_below hbA)
      refine hK.out _ _ trivial (fun _ => ?_)
      clear hK K hbA
      generalize W.heap.size = tb at *
      generalize W.alloc (.cells #[.string ⟨#[119]⟩, .string ⟨#[120]⟩, .string ⟨#[121]⟩, .string ⟨#[122]⟩, .string ⟨#[118]⟩] 9) = W at *
      refine wpAnyH_take (i := 4) (v := .pointer (some ⟨tb, j, none⟩)) rfl (by kernel_rfl) (by kernel_rfl) (by kernel_rfl) (fun _ _ _ h => h) (Or.inl ⟨by rfl, ?_⟩) trivial ?_
      · rintro u _
        go_simp
      simp only [Act.put, List.setIfInBounds_toArray]
      refine wpAnyH_ready (rs := [5, 7]) (by kernel_rfl) (by simp) ?_
      refine AllReadyH.cons rfl (fun K hK => ?_) (AllReadyH.cons rfl (fun K hK => ?_) AllReadyH.nil)
      · rw [if_pos (by rfl)]
        obtain ⟨s, e5, hs8⟩ := htab j hj5
        go_simp
        refine hK.out _ _ trivial (fun _ => ?_)
        clear hK K
        refine wpAnyH_ready (rs := [7]) (by kernel_rfl) (by simp) ?_
        refine AllReadyH.cons rfl (fun K hK => ?_) AllReadyH.nil
        rw [if_pos (by rfl)]
        go_simp
        refine (pick_any _ m c _ ab 8 _ hr (by omega) (by omega) (by omega)).mono ?_
        rintro e W ⟨⟨y7, rfl, hy70, hy71⟩, hr2, hb2⟩
        replace hg := hg.but hb2 hz0
        replace hB := hB.trans hb2
        refine hK.out _ _ trivial (fun _ => ?_)
        clear hK K hr hb2
        have hr := hr2
        clear hr2
        refine wpAnyH_ready (rs := [8]) (by kernel_rfl) (by simp) ?_
        refine AllReadyH.cons rfl (fun K hK => ?_) AllReadyH.nil
        rw [if_pos (by rfl)]
        go_simp
        refine hK.out _ _ trivial (fun _ => ?_)
        clear hK K
        refine wpAnyH_ready (rs := [9]) (by kernel_rfl) (by simp) ?_
        refine AllReadyH.cons rfl (fun K hK => ?_) AllReadyH.nil
        rw [if_pos (by rfl)]
        go_simp
        refine hK.out _ _ trivial (fun _ => ?_)
        clear hK K
        refine wpAnyH_ready (rs := [10]) (by kernel_rfl) (by simp) ?_
        refine AllReadyH.cons rfl (fun K hK => ?_) AllReadyH.nil
        rw [if_pos (by rfl)]
        go_simp
        refine hK.out _ _ trivial (fun _ => ?_)
        clear hK K
        refine wpAnyH_done (by kernel_rfl) ?_ _
        go_wp2_with fail
        exact bodyPost_ret (v := .tuple #[.slice a3 L.length c3, .string s, .int .i64 y7]) (by simp [results, Try.results35, go_sem]) rfl ⟨⟨_, L, s, y7, rfl, hg.lower hz12, hf3, hs8⟩, hb1.trans (hB.below (Nat.le_refl _) hb1.size)⟩
      · rw [if_pos (by rfl)]
        go_simp
        refine (pick_any _ m c _ ab 8 _ hr (by omega) (by omega) (by omega)).mono ?_
        rintro e W ⟨⟨y7, rfl, hy70, hy71⟩, hr2, hb2⟩
        replace hg := hg.but hb2 hz0
        replace hB := hB.trans hb2
        replace htab : ∀ k, k < 5 → ∃ s : ByteArray, W.cell? ⟨tb, k, none⟩ = some (.string s) ∧ s.size ≤ 8 := fun k hk => by
          obtain ⟨s, e, hs⟩ := htab k hk
          exact ⟨s, (hb2.cell (b := tb) k (block_lt_of_cell e) (Ne.symm htb)).trans e, hs⟩
        refine hK.out _ _ trivial (fun _ => ?_)
        clear hK K hr hb2
        have hr := hr2
        clear hr2
        refine wpAnyH_ready (rs := [5, 8]) (by kernel_rfl) (by simp) ?_
        refine AllReadyH.cons rfl (fun K hK => ?_) (AllReadyH.cons rfl (fun K hK => ?_) AllReadyH.nil)
        · rw [if_pos (by rfl)]
          obtain ⟨s, e5, hs8⟩ := htab j hj5
          go_simp
          refine hK.out _ _ trivial (fun _ => ?_)
          clear hK K
          refine wpAnyH_ready (rs := [8]) (by kernel_rfl) (by simp) ?_
          refine AllReadyH.cons rfl (fun K hK => ?_) AllReadyH.nil
          rw [if_pos (by rfl)]
          go_simp
          refine hK.out _ _ trivial (fun _ => ?_)
          clear hK K
          refine wpAnyH_ready (rs := [9]) (by kernel_rfl) (by simp) ?_
          refine AllReadyH.cons rfl (fun K hK => ?_) AllReadyH.nil
          rw [if_pos (by rfl)]
          go_simp
          refine hK.out _ _ trivial (fun _ => ?_)
          clear hK K
          refine wpAnyH_ready (rs := [10]) (by kernel_rfl) (by simp) ?_
          refine AllReadyH.cons rfl (fun K hK => ?_) AllReadyH.nil
          rw [if_pos (by rfl)]
          go_simp
          refine hK.out _ _ trivial (fun _ => ?_)
          clear hK K
          refine wpAnyH_done (by kernel_rfl) ?_ _
          go_wp2_with fail
          exact bodyPost_ret (v := .tuple #[.slice a3 L.length c3, .string s, .int .i64 y7]) (by simp [results, Try.results35, go_sem]) rfl ⟨⟨_, L, s, y7, rfl, hg.lower hz12, hf3, hs8⟩, hb1.trans (hB.below (Nat.le_refl _) hb1.size)⟩
        · rw [if_pos (by rfl)]
          go_simp
          refine hK.out _ _ trivial (fun _ => ?_)
          clear hK K
          refine wpAnyH_ready (rs := [5]) (by kernel_rfl) (by simp) ?_
          refine AllReadyH.cons rfl (fun K hK => ?_) AllReadyH.nil
          rw [if_pos (by rfl)]
          obtain ⟨s, e5, hs8⟩ := htab j hj5
          go_simp
          refine hK.out _ _ trivial (fun _ => ?_)
          clear hK K
          refine wpAnyH_ready (rs := [9]) (by kernel_rfl) (by simp) ?_
          refine AllReadyH.cons rfl (fun K hK => ?_) AllReadyH.nil
          rw [if_pos (by rfl)]
          go_simp
          refine hK.out _ _ trivial (fun _ => ?_)
          clear hK K
          refine wpAnyH_ready (rs := [10]) (by kernel_rfl) (by simp) ?_
          refine AllReadyH.cons rfl (fun K hK => ?_) AllReadyH.nil
          rw [if_pos (by rfl)]
          go_simp
          refine hK.out _ _ trivial (fun _ => ?_)
          clear hK K
          refine wpAnyH_done (by kernel_rfl) ?_ _
          go_wp2_with fail
          exact bodyPost_ret (v := .tuple #[.slice a3 L.length c3, .string s, .int .i64 y7]) (by simp [results, Try.results35, go_sem]) rfl ⟨⟨_, L, s, y7, rfl, hg.lower hz12, hf3, hs8⟩, hb1.trans (hB.below (Nat.le_refl _) hb1.size)⟩
    · rw [if_pos (by rfl)]
      go_simp
      refine (pick_any _ m c _ ab 8 _ hr (by omega) (by omega) (by omega)).mono ?_
      rintro e W ⟨⟨y7, rfl, hy70, hy71⟩, hr2, hb2⟩
      replace hg := hg.but hb2 hz0
      replace hB := hB.trans hb2
      refine hK.out _ _ trivial (fun _ => ?_)
      clear hK K hr hb2
      have hr := hr2
      clear hr2
      refine wpAnyH_ready (rs := [1, 8]) (by kernel_rfl) (by simp) ?_
      refine AllReadyH.cons rfl (fun K hK => ?_) (AllReadyH.cons rfl (fun K hK => ?_) AllReadyH.nil)
      · rw [if_pos (by rfl)]
        go_simp
        have hbA : Below W.heap.size W (W.alloc (.cells #[.string ⟨#[119]⟩, .string ⟨#[120]⟩, .string ⟨#[121]⟩, .string ⟨#[122]⟩, .string ⟨#[118]⟩] 9)) := (Below.refl _ _).alloc (Nat.le_refl _) _
        have htab : ∀ k, k < 5 → ∃ s : ByteArray, (W.alloc (.cells #[.string ⟨#[119]⟩, .string ⟨#[120]⟩, .string ⟨#[121]⟩, .string ⟨#[122]⟩, .string ⟨#[118]⟩] 9)).cell? ⟨W.heap.size, k, none⟩ = some (.string s) ∧ s.size ≤ 8 := tab5 W
        have htb : w.heap.size ≠ W.heap.size := by have := hr.lt; omega
        replace hr := hr.below hbA
        replace hg := hg.keep hbA
        replace hB := hB.trans (But.of_below hbA)
        refine hK.out _ _ trivial (fun _ => ?_)
        clear hK K hbA
        generalize W.heap.size = tb at *
        generalize W.alloc (.cells #[.string ⟨#[119]⟩, .string ⟨#[120]⟩, .string ⟨#[121]⟩, .string ⟨#[122]⟩, .string ⟨#[118]⟩] 9) = W at *
        refine wpAnyH_take (i := 4) (v := .pointer (some ⟨tb, j, none⟩)) rfl (by kernel_rfl) (by kernel_rfl) (by kernel_rfl) (fun _ _ _ h => h) (Or.inl ⟨by rfl, ?_⟩) trivial ?_
        · rintro u _
          go_simp
        simp only [Act.put, List.setIfInBounds_toArray]
        refine wpAnyH_ready (rs := [5, 8]) (by kernel_rfl) (by simp) ?_
        refine AllReadyH.cons rfl (fun K hK => ?_) (AllReadyH.cons rfl (fun K hK => ?_) AllReadyH.nil)
        · rw [if_pos (by rfl)]
          obtain ⟨s, e5, hs8⟩ := htab j hj5
          go_simp
          refine hK.out _ _ trivial (fun _ => ?_)
          clear hK K
          refine wpAnyH_ready (rs := [8]) (by kernel_rfl) (by simp) ?_
          refine AllReadyH.cons rfl (fun K hK => ?_) AllReadyH.nil
          rw [if_pos (by rfl)]
          go_simp
          refine hK.out _ _ trivial (fun _ => ?_)
          clear hK K
          refine wpAnyH_ready (rs := [9]) (by kernel_rfl) (by simp) ?_
          refine AllReadyH.cons rfl (fun K hK => ?_) AllReadyH.nil
          rw [if_pos (by rfl)]
          go_simp
          refine hK.out _ _ trivial (fun _ => ?_)
          clear hK K
          refine wpAnyH_ready (rs := [10]) (by kernel_rfl) (by simp) ?_
          refine AllReadyH.cons rfl (fun K hK => ?_) AllReadyH.nil
          rw [if_pos (by rfl)]
          go_simp
          refine hK.out _ _ trivial (fun _ => ?_)
          clear hK K
          refine wpAnyH_done (by kernel_rfl) ?_ _
          go_wp2_with fail
          exact bodyPost_ret (v := .tuple #[.slice a3 L.length c3, .string s, .int .i64 y7]) (by simp [results, Try.results35, go_sem]) rfl ⟨⟨_, L, s, y7, rfl, hg.lower hz12, hf3, hs8⟩, hb1.trans (hB.below (Nat.le_refl _) hb1.size)⟩
        · rw [if_pos (by rfl)]
          go_simp
          refine hK.out _ _ trivial (fun _ => ?_)
          clear hK K
          refine wpAnyH_ready (rs := [5]) (by kernel_rfl) (by simp) ?_
          refine AllReadyH.cons rfl (fun K hK => ?_) AllReadyH.nil
          rw [if_pos (by rfl)]
          obtain ⟨s, e5, hs8⟩ := htab j hj5
          go_simp
          refine hK.out _ _ trivial (fun _ => ?_)
          clear hK K
          refine wpAnyH_ready (rs := [9]) (by kernel_rfl) (by simp) ?_
          refine AllReadyH.cons rfl (fun K hK => ?_) AllReadyH.nil
          rw [if_pos (by rfl)]
          go_simp
          refine hK.out _ _ trivial (fun _ => ?_)
          clear hK K
          refine wpAnyH_ready (rs := [10]) (by kernel_rfl) (by simp) ?_
          refine AllReadyH.cons rfl (fun K hK => ?_) AllReadyH.nil
          rw [if_pos (by rfl)]
          go_simp
          refine hK.out _ _ trivial (fun _ => ?_)
          clear hK K
          refine wpAnyH_done (by kernel_rfl) ?_ _
          go_wp2_with fail
          exact bodyPost_ret (v := .tuple #[.slice a3 L.length c3, .string s, .int .i64 y7]) (by simp [results, Try.results35, go_sem]) rfl ⟨⟨_, L, s, y7, rfl, hg.lower hz12, hf3, hs8⟩, hb1.trans (hB.below (Nat.le_refl _) hb1.size)⟩
      · rw [if_pos (by rfl)]
        go_simp
        refine hK.out _ _ trivial (fun _ => ?_)
        clear hK K
        refine wpAnyH_ready (rs := [1]) (by kernel_rfl) (by simp) ?_
        refine AllReadyH.cons rfl (fun K hK => ?_) AllReadyH.nil
        rw [if_pos (by rfl)]
        go_simp
        have hbA : Below W.heap.size W (W.alloc (.cells #[.string ⟨#[119]⟩, .string ⟨#[120]⟩, .string ⟨#[121]⟩, .string ⟨#[122]⟩, .string ⟨#[118]⟩] 9)) := (Below.refl _ _).alloc (Nat.le_refl _) _
        have htab : ∀ k, k < 5 → ∃ s : ByteArray, (W.alloc (.cells #[.string ⟨#[119]⟩, .string ⟨#[120]⟩, .string ⟨#[121]⟩, .string ⟨#[122]⟩, .string ⟨#[118]⟩] 9)).cell? ⟨W.heap.size, k, none⟩ = some (.string s) ∧ s.size ≤ 8 := tab5 W
        have htb : w.heap.size ≠ W.heap.size := by have := hr.lt; omega
        replace hr := hr.below hbA
        replace hg := hg.keep hbA
        replace hB := hB.trans (But.of_below hbA)
        refine hK.out _ _ trivial (fun _ => ?_)
        clear hK K hbA
        generalize W.heap.size = tb at *
        generalize W.alloc (.cells #[.string ⟨#[119]⟩, .string ⟨#[120]⟩, .string ⟨#[121]⟩, .string ⟨#[122]⟩, .string ⟨#[118]⟩] 9) = W at *
        refine wpAnyH_take (i := 4) (v := .pointer (some ⟨tb, j, none⟩)) rfl (by kernel_rfl) (by kernel_rfl) (by kernel_rfl) (fun _ _ _ h => h) (Or.inl ⟨by rfl, ?_⟩) trivial ?_
        · rintro u _
          go_simp
        simp only [Act.put, List.setIfInBounds_toArray]
        refine wpAnyH_ready (rs := [5]) (by kernel_rfl) (by simp) ?_
        refine AllReadyH.cons rfl (fun K hK => ?_) AllReadyH.nil
        rw [if_pos (by rfl)]
        obtain ⟨s, e5, hs8⟩ := htab j hj5
        go_simp
        refine hK.out _ _ trivial (fun _ => ?_)
        clear hK K
        refine wpAnyH_ready (rs := [9]) (by kernel_rfl) (by simp) ?_
        refine AllReadyH.cons rfl (fun K hK => ?_) AllReadyH.nil
        rw [if_pos (by rfl)]
        go_simp
        refine hK.out _ _ trivial (fun _ => ?_)
        clear hK K
        refine wpAnyH_ready (rs := [10]) (by kernel_rfl) (by simp) ?_
        refine AllReadyH.cons rfl (fun K hK => ?_) AllReadyH.nil
        rw [if_pos (by rfl)]
        go_simp
        refine hK.out _ _ trivial (fun _ => ?_)
        clear hK K
        refine wpAnyH_done (by kernel_rfl) ?_ _
        go_wp2_with fail
        exact bodyPost_ret (v := .tuple #[.slice a3 L.length c3, .string s, .int .i64 y7]) (by simp [results, Try.results35, go_sem]) rfl ⟨⟨_, L, s, y7, rfl, hg.lower hz12, hf3, hs8⟩, hb1.trans (hB.below (Nat.le_refl _) hb1.size)⟩

end Go.Proofs.Ytlhdjbepjfojbaa
