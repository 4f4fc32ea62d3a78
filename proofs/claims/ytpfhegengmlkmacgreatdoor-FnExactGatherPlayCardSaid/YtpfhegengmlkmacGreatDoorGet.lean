/- Walks: l1Get, spec.StampGet, impl.StampGet. -/
import Derived.Test.YtpfhegengmlkmacGreatDoorWf
namespace Go.Proofs.YtpfhegengmlkmacGreatDoor
open Go.RowKit Go.BigFrame

set_option maxHeartbeats 400000 in
theorem l1Get_any (a : Option Addr) (cap : Nat) (l : List (ByteArray × Int)) (s : ByteArray) (w : World) (hl : l.length ≤ maxLen) (hr : Row w a l) :
    Calls Tryz.prog 124 #[.slice a l.length cap, .string s] w fun e w' => e = .returned (.int .i64 (getM l s)) ∧ w' = w := by
  unfold maxLen at hl
  go_enter Tryz.func124, Tryz.ntmps124
  go_wp2_with fail
  go_loop [5] (fun i => ∃ k : Nat, k ≤ l.length ∧ i = .int .i64 k ∧ (∀ j, (h : j < l.length) → j < k → l[j].1 ≠ s)) (fun i => l.length - (intOf i).toNat)
  case atStart => exact ⟨0, Nat.zero_le _, rfl, fun j _ h => by omega⟩
  case round =>
    obtain ⟨k, hk, rfl, hall⟩ := hrel
    by_cases hlt : k < l.length
    · obtain ⟨b, o, rfl, hblt, c0, c1⟩ := hr k hlt
      have HST := ne_step hall hlt
      by_cases he : l[k].1 = s
      · have H : Hid (getM l s = l[k].2) := getM_at hlt hall he
        have hb : (l[k].1.toList == s.toList) = true := toList_beq.2 he
        clear HST hall he
        go_wp2_with fail
        go_ret
        exact ⟨by rw [H.out]; rfl, rfl⟩
      · have hb : (l[k].1.toList == s.toList) = false := toList_bne.2 he
        have HN := HST he
        clear HST hall he
        go_wp2_with fail
        exact ⟨⟨k + 1, by omega, by go_num, HN⟩, by simp [intOf]; omega⟩
    · have H : Hid (getM l s = 0) := getM_none fun j hj => hall j hj (by omega)
      go_wp2_with fail
      go_ret
      exact ⟨by rw [H.out]; rfl, rfl⟩

/-- What StampGet answers. -/
def IsG (l : List (ByteArray × Int)) (s : ByteArray) (v : Int) : Prop := (StampP l → v = getM l s) ∧ (¬ StampP l → v = 0)
theorem IsG.one {l : List (ByteArray × Int)} {s : ByteArray} {u v : Int} (h : IsG l s u) (h' : IsG l s v) : u = v := by
  by_cases hp : StampP l
  · rw [h.1 hp, h'.1 hp]
  · rw [h.2 hp, h'.2 hp]

end Go.Proofs.YtpfhegengmlkmacGreatDoor
