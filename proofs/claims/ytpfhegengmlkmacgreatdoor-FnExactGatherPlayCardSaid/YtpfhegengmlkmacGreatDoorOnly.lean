/- Walks: spec.StampOnly, impl.StampOnly and what they call. -/
import Derived.Test.YtpfhegengmlkmacGreatDoorWf
import Derived.Test.YtpfhegengmlkmacGreatDoorStrsM
import Derived.Test.YtpfhegengmlkmacGreatDoorGath
import Derived.Test.YtpfhegengmlkmacGreatDoorClone
namespace Go.Proofs.YtpfhegengmlkmacGreatDoor
open Go.RowKit Go.BigFrame

/-- Is the mark's source among the names? -/
def amongB (names : List ByteArray) (s : ByteArray) : Bool := names.any fun x => decide (x = s)
/-- What is left of marks by names. -/
def onlyM (names : List ByteArray) (l : List (ByteArray × Int)) : List (ByteArray × Int) := l.filter fun m => amongB names m.1

theorem among_iff {names : List ByteArray} {s : ByteArray} : amongB names s = true ↔ ∃ j, ∃ h : j < names.length, names[j] = s := by
  unfold amongB
  simp only [List.any_eq_true, decide_eq_true_eq]
  constructor
  · rintro ⟨x, hx, rfl⟩
    obtain ⟨j, hj, rfl⟩ := List.mem_iff_getElem.1 hx
    exact ⟨j, hj, rfl⟩
  · rintro ⟨j, hj, rfl⟩
    exact ⟨_, List.getElem_mem hj, rfl⟩

theorem only_take {names : List ByteArray} {l : List (ByteArray × Int)} {k : Nat} (hk : k < l.length) :
    onlyM names (l.take (k + 1)) = onlyM names (l.take k) ++ (if amongB names l[k].1 = true then [l[k]] else []) := by
  unfold onlyM
  rw [List.take_succ_eq_append_getElem hk, List.filter_append]
  by_cases h : amongB names l[k].1 = true <;> simp [h]
theorem only_len {names : List ByteArray} {l : List (ByteArray × Int)} (k : Nat) : (onlyM names (l.take k)).length ≤ l.length := by
  unfold onlyM
  exact Nat.le_trans (List.length_filter_le _ _) (by rw [List.length_take]; omega)

/-- 'b' says whether 'x' is among the first 'j' names. -/
def HasB (names : List ByteArray) (j : Nat) (x : ByteArray) (b : Bool) : Prop := b = true ↔ ∃ q, ∃ hq : q < names.length, q < j ∧ names[q] = x
theorem hasB_start (names : List ByteArray) (x : ByteArray) : HasB names 0 x false := ⟨fun h => (by cases h), fun ⟨q, _, h, _⟩ => by omega⟩
theorem hasB_hit {names : List ByteArray} {j : Nat} {x : ByteArray} (hj : j < names.length) (he : names[j] = x) : HasB names (j + 1) x true := ⟨fun _ => ⟨j, hj, by omega, he⟩, fun _ => rfl⟩
theorem hasB_no {names : List ByteArray} {j : Nat} {x : ByteArray} (h : HasB names j x false) {hj : j < names.length} (he : ¬ names[j] = x) : HasB names (j + 1) x false := by
  refine ⟨fun h => (by cases h), ?_⟩
  rintro ⟨q, hq, hlt, e⟩
  by_cases hqj : q = j
  · subst hqj; exact absurd e he
  · exact h.2 ⟨q, hq, by omega, e⟩
theorem hasB_yes {names : List ByteArray} {j : Nat} {x : ByteArray} (h : HasB names j x true) : HasB names (j + 1) x true := by
  refine ⟨fun _ => ?_, fun _ => rfl⟩
  obtain ⟨q, hq, hlt, e⟩ := h.1 rfl
  exact ⟨q, hq, by omega, e⟩
theorem hasB_all {names : List ByteArray} {j : Nat} {x : ByteArray} {b : Bool} (h : HasB names j x b) (hj : names.length ≤ j) : amongB names x = b := by
  have h' : b = true ↔ amongB names x = true := by
    unfold HasB at h
    rw [h, among_iff]
    exact ⟨fun ⟨q, hq, _, e⟩ => ⟨q, hq, e⟩, fun ⟨q, hq, e⟩ => ⟨q, hq, by omega, e⟩⟩
  cases b <;> cases hA : amongB names x <;> simp_all

/-- What StampOnly answers. -/
def IsO (l : List (ByteArray × Int)) (names : List ByteArray) (m : List (ByteArray × Int)) : Prop := (StampP l → m = onlyM names l) ∧ (¬ StampP l → m = [])
theorem IsO.one {l : List (ByteArray × Int)} {names : List ByteArray} {u v : List (ByteArray × Int)} (h : IsO l names u) (h' : IsO l names v) : u = v := by
  by_cases hp : StampP l
  · rw [h.1 hp, h'.1 hp]
  · rw [h.2 hp, h'.2 hp]

set_option maxHeartbeats 400000 in
theorem index_any (a : Option Addr) (cap : Nat) (names : List ByteArray) (x : ByteArray) (w : World) (hl : names.length ≤ 1048576) (hr : RowS w a names) :
    Calls Tryz.prog 181 #[.slice a names.length cap, .string x] w fun e w' => (∃ r : Int, e = .returned (.int .i64 r) ∧ decide (0 ≤ r) = amongB names x) ∧ w' = w := by
  go_enter Tryz.func181, Tryz.ntmps181
  go_wp2_with fail
  go_loop [8] (fun i => ∃ j : Nat, j ≤ names.length ∧ i = .int .i64 j ∧ HasB names j x false) (fun i => names.length - (intOf i).toNat)
  case atStart => exact ⟨0, Nat.zero_le _, rfl, hasB_start _ _⟩
  case round =>
    obtain ⟨j, hj, rfl, HH⟩ := hrel
    by_cases hjlt : j < names.length
    · obtain ⟨b, o, rfl, hblt, d0⟩ := hr j hjlt
      by_cases he : names[j] = x
      · have hb' : (x.toList == names[j].toList) = true := toList_beq.2 he.symm
        have HA : Hid (amongB names x = true) := among_iff.2 ⟨j, hjlt, he⟩
        go_wp2_with fail
        go_ret
        exact ⟨⟨_, rfl, by rw [HA.out]; simp⟩, rfl⟩
      · have hb' : (x.toList == names[j].toList) = false := toList_bne.2 (fun h => he h.symm)
        go_wp2_with fail
        exact ⟨⟨j + 1, by omega, by go_num, hasB_no HH he⟩, by simp [intOf]; omega⟩
    · have HA : Hid (amongB names x = false) := hasB_all HH (by omega)
      go_wp2_with fail
      go_ret
      exact ⟨⟨_, rfl, by rw [HA.out]; simp⟩, rfl⟩

set_option maxHeartbeats 400000 in
theorem contains_any (a : Option Addr) (cap : Nat) (names : List ByteArray) (x : ByteArray) (w : World) (hl : names.length ≤ 1048576) (hr : RowS w a names) :
    Calls Tryz.prog 147 #[.slice a names.length cap, .string x] w fun e w' => e = .returned (.bool (amongB names x)) ∧ w' = w := by
  go_enter Tryz.func147, Tryz.ntmps147
  go_wp2_with fail
  refine (index_any a cap names x _ hl hr).mono ?_
  rintro e w1 ⟨⟨r, rfl, hr1⟩, rfl⟩
  have HR : Hid (decide (0 ≤ r) = amongB names x) := hr1
  clear hr1
  go_wp2_with fail
  go_ret
  exact ⟨by rw [← HR.out]; rfl, rfl⟩

end Go.Proofs.YtpfhegengmlkmacGreatDoor
