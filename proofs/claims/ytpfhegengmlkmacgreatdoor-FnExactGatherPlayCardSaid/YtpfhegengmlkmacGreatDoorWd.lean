/- Walks: isDigit, isNameByte, nameOk, l1Name: which texts are names. -/
import Derived.Test.YtpfhegengmlkmacGreatDoorLat
namespace Go.Proofs.YtpfhegengmlkmacGreatDoor
open Go.RowKit

/-- The call answered the bool that says whether 'p'. -/
def IsB (p : Prop) (e : Ending) : Prop := ∃ r : Bool, e = .returned (.bool r) ∧ (r = true ↔ p)
theorem isB_true {p : Prop} (h : p) : IsB p (.returned (.bool true)) := ⟨true, rfl, by simp [h]⟩
theorem isB_false {p : Prop} (h : ¬ p) : IsB p (.returned (.bool false)) := ⟨false, rfl, by simp [h]⟩

set_option maxHeartbeats 400000 in
theorem isDigit_any (c : Int) (w : World) :
    Calls Tryz.prog 200 #[.int .u8 c] w fun e w' => IsB (48 ≤ c ∧ c ≤ 57) e ∧ w' = w := by
  go_enter Tryz.func200, Tryz.ntmps200
  go_wp2
  all_goals go_ret
  all_goals refine ⟨⟨_, rfl, ?_⟩, rfl⟩
  all_goals simp
  all_goals omega

set_option maxHeartbeats 400000 in
theorem isNameByte_any (c : Int) (w : World) :
    Calls Tryz.prog 180 #[.int .u8 c] w fun e w' => IsB (NB c) e ∧ w' = w := by
  go_enter Tryz.func180, Tryz.ntmps180
  go_wp2_with (first | (go_at_call 200; refine (isDigit_any _ _).mono ?_; rintro e w' ⟨⟨r, rfl, hr⟩, rfl⟩))
  all_goals go_ret
  all_goals refine ⟨⟨_, rfl, ?_⟩, rfl⟩
  all_goals simp only [NB, Bool.or_eq_true, decide_eq_true_eq, beq_iff_eq, *]
  all_goals first | omega | (simp; done) | (simp; omega)

theorem nb_step {s : ByteArray} {k : Nat} (H : ∀ j, (h : j < s.size) → j < k → NB (s[j].toNat : Int)) (hk : k < s.size) (h : NB (s[k].toNat : Int)) : ∀ j, (h : j < s.size) → j < k + 1 → NB (s[j].toNat : Int) := fun j hj hlt => by
  by_cases e : j = k
  · subst e; exact h
  · exact H j hj (by omega)

set_option maxHeartbeats 400000 in
theorem nameOk_any (s : ByteArray) (w : World) (hs : s.size ≤ maxLen) :
    Calls Tryz.prog 146 #[.string s] w fun e w' => IsB (NameP s) e ∧ w' = w := by
  unfold maxLen at hs
  by_cases h1 : s.size < 1
  · go_enter Tryz.func146, Tryz.ntmps146
    go_wp2_with fail
    go_ret
    exact ⟨isB_false (fun h => by have := h.1; omega), rfl⟩
  by_cases h8 : 8 < s.size
  · go_enter Tryz.func146, Tryz.ntmps146
    go_wp2_with fail
    go_ret
    exact ⟨isB_false (fun h => by have := h.2.1; omega), rfl⟩
  go_enter Tryz.func146, Tryz.ntmps146
  go_wp2_with fail
  go_loop [14] (fun i => ∃ k : Nat, k ≤ s.size ∧ i = .int .i64 k ∧ (∀ j, (h : j < s.size) → j < k → NB (s[j].toNat : Int))) (fun i => s.size - (intOf i).toNat)
  case atStart => exact ⟨0, Nat.zero_le _, rfl, fun j _ h => by omega⟩
  case round =>
    obtain ⟨k, hk, rfl, hall⟩ := hrel
    by_cases hlt : k < s.size
    · have HST := nb_step hall hlt
      go_wp2_with (first | (go_at_call 180; refine (isNameByte_any _ _).mono ?_; rintro e w' ⟨⟨r, rfl, hr⟩, rfl⟩))
      · go_ret
        exact ⟨isB_false (fun h => by have := hr.2 (h.2.2 k hlt); simp_all), rfl⟩
      · exact ⟨⟨k + 1, by omega, by go_num, HST (hr.1 (by simp_all))⟩, by simp [intOf]; omega⟩
    · go_wp2_with fail
      go_ret
      exact ⟨isB_true ⟨by omega, by omega, fun j hj => hall j hj (by omega)⟩, rfl⟩

theorem byte_le (s : ByteArray) (k : Nat) (h : k < s.size) : (s[k].toNat : Int) ≤ 255 := by
  have := s[k].toNat_lt
  omega

set_option maxHeartbeats 400000 in
theorem l1Name_any (s : ByteArray) (w : World) (hs : s.size ≤ maxLen) :
    Calls Tryz.prog 120 #[.string s] w fun e w' => IsB (NameP s) e ∧ w' = w := by
  unfold maxLen at hs
  by_cases h1 : s.size < 1
  · go_enter Tryz.func120, Tryz.ntmps120
    go_wp2_with fail
    go_ret
    exact ⟨isB_false (fun h => by have := h.1; omega), rfl⟩
  by_cases h8 : 8 < s.size
  · go_enter Tryz.func120, Tryz.ntmps120
    go_wp2_with fail
    go_ret
    exact ⟨isB_false (fun h => by have := h.2.1; omega), rfl⟩
  go_enter Tryz.func120, Tryz.ntmps120
  go_wp2_with fail
  go_loop [3] (fun i => ∃ k : Nat, k ≤ s.size ∧ i = .int .i64 k ∧ (∀ j, (h : j < s.size) → j < k → NB (s[j].toNat : Int))) (fun i => s.size - (intOf i).toNat)
  case atStart => exact ⟨0, Nat.zero_le _, rfl, fun j _ h => by omega⟩
  case round =>
    obtain ⟨k, hk, rfl, hall⟩ := hrel
    by_cases hlt : k < s.size
    · have HST := nb_step hall hlt
      have hby := byte_le s k hlt
      by_cases hnb : NB (s[k].toNat : Int)
      · have hgo : NB (s[k].toNat : Int) := hnb
        unfold NB at hgo
        have HN := HST hnb
        clear HST hnb hall
        go_wp2_with fail
        all_goals exact ⟨⟨k + 1, by omega, by go_num, HN⟩, by simp [intOf]; omega⟩
      · have hgo := hnb
        unfold NB at hgo
        have hne : ((s[k].toNat : Int) != 45) = true := by rw [bne_iff_ne]; omega
        clear HST hall
        go_wp2_with fail
        all_goals first | (go_ret; exact ⟨isB_false (fun h => hnb (h.2.2 k hlt)), rfl⟩) | (exfalso; simp only [hne, Bool.true_eq_false, or_false] at *; omega)
    · go_wp2_with fail
      go_ret
      exact ⟨isB_true ⟨by omega, by omega, fun j hj => hall j hj (by omega)⟩, rfl⟩

end Go.Proofs.YtpfhegengmlkmacGreatDoor
