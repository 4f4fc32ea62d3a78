/- Walks: szMark, szMarkS, toMark, toMarkS. -/
import Derived.Test.YtpfhegengmlkmacGreatDoorBase
namespace Go.Proofs.YtpfhegengmlkmacGreatDoor
open Go.RowKit

set_option maxHeartbeats 400000 in
theorem szMark_any (s : ByteArray) (v left : Int) (w : World) (hs : s.size ≤ maxLen) (h0 : 0 ≤ left) (h1 : left ≤ 1048576) :
    Calls Tryz.prog 76 #[.agg #[.string s, .int .i64 v], .int .i64 left] w fun e w' => ∃ r : Int, e = .returned (.int .i64 r) ∧ -1 ≤ r ∧ r ≤ left ∧ (0 ≤ r → (s.size : Int) ≤ left) ∧ Below w.heap.size w w' := by
  unfold maxLen at hs
  by_cases hc : left - (s.size : Int) < 0
  · go_enter Tryz.func76, Tryz.ntmps76
    go_wp2
    go_ret
    exact ⟨-1, rfl, by omega, by omega, fun h => by omega, (Below.refl _ _).alloc (Nat.le_refl _) _⟩
  · go_enter Tryz.func76, Tryz.ntmps76
    go_wp2
    go_ret
    exact ⟨_, rfl, by omega, by omega, fun h => by omega, (Below.refl _ _).alloc (Nat.le_refl _) _⟩

theorem sz_step {l : List (ByteArray × Int)} {left : Int} {k : Nat} (H : ∀ j, (h : j < l.length) → j < k → (l[j].1.size : Int) ≤ left) (hk : k < l.length) (h : (l[k].1.size : Int) ≤ left) : ∀ j, (h : j < l.length) → j < k + 1 → (l[j].1.size : Int) ≤ left := fun j hj hlt => by
  by_cases e : j = k
  · subst e; exact h
  · exact H j hj (by omega)

set_option maxHeartbeats 400000 in
theorem szMarkS_any (a : Option Addr) (cap : Nat) (l : List (ByteArray × Int)) (left : Int) (w : World) (hl : l.length ≤ maxLen) (hr : Row w a l) (hs : ∀ j, (h : j < l.length) → l[j].1.size ≤ maxLen) (h0 : 0 ≤ left) (h1 : left ≤ 1048576) :
    Calls Tryz.prog 39 #[.slice a l.length cap, .int .i64 left] w fun e w' => ∃ r : Int, e = .returned (.int .i64 r) ∧ -1 ≤ r ∧ r ≤ left ∧ (0 ≤ r → (l.length : Int) ≤ left ∧ ∀ j, (h : j < l.length) → (l[j].1.size : Int) ≤ left) ∧ Below w.heap.size w w' := by
  unfold maxLen at hl
  by_cases hc : left - (l.length : Int) < 0
  · go_enter Tryz.func39, Tryz.ntmps39
    go_wp2_with fail
    go_ret
    exact ⟨-1, rfl, by omega, by omega, fun h => by omega, Below.refl _ _⟩
  · go_enter Tryz.func39, Tryz.ntmps39
    go_wp2_with fail
    go_loopw [1, 5] (fun lf i wr => ∃ (k : Nat) (q : Int), k ≤ l.length ∧ i = .int .i64 k ∧ lf = .int .i64 q ∧ 0 ≤ q ∧ q ≤ left ∧ (∀ j, (h : j < l.length) → j < k → (l[j].1.size : Int) ≤ left) ∧ Below w.heap.size w wr) (fun _ i _ => l.length - (intOf i).toNat)
    case atStart => exact ⟨0, _, Nat.zero_le _, rfl, rfl, by omega, by omega, fun j _ h => by omega, Below.refl _ _⟩
    case round =>
      obtain ⟨k, q, hk, rfl, rfl, hq0, hq1, hall, hb⟩ := hrel
      by_cases hlt : k < l.length
      · obtain ⟨b, o, rfl, hblt, c0, c1⟩ := hr k hlt
        obtain ⟨hcc, hf⟩ := bcell hb
        have HS := hs k hlt
        have HST := sz_step hall hlt
        go_wp2_with (first | (go_at_call 76; refine (szMark_any _ _ _ _ HS hq0 (by omega)).mono ?_; rintro e w' ⟨r, rfl, hr0, hr1, hr2, hb1⟩))
        · go_ret
          exact ⟨_, rfl, by omega, by omega, fun h => by omega, hb.trans (hb1.mono hb.size)⟩
        · exact ⟨⟨k + 1, _, by omega, by go_num, rfl, by omega, by omega, HST (by have := hr2 (by omega); omega), hb.trans (hb1.mono hb.size)⟩, by simp [intOf]; omega⟩
      · go_wp2_with fail
        go_ret
        exact ⟨q, rfl, by omega, hq1, fun _ => ⟨by omega, fun j hj => hall j hj (by omega)⟩, hb⟩

end Go.Proofs.YtpfhegengmlkmacGreatDoor
