/- Walks: spec.StampOnly, impl.StampOnly and what they call. -/
import Derived.Test.YtlhdjbepjfojbacWf
import Derived.Test.YtlhdjbepjfojbacStrsM
import Derived.Test.YtlhdjbepjfojbacGath
import Derived.Test.YtlhdjbepjfojbacClone
namespace Go.Proofs.Ytlhdjbepjfojbac
open Go.RowKit Go.BigFrame

/-- Is the mark's source among the names? -/
def amongB (names : List ByteArray) (s : ByteArray) : Bool := names.any fun x => decide (x = s)
/-- What is left of marks by names. -/
def onlyM (names : List ByteArray) (l : List (ByteArray × Int)) : List (ByteArray × Int) := l.filter fun m => amongB names m.1

theorem among_iff {names : List ByteArray} {s : ByteArray} : amongB names s = true ↔ ∃ j, ∃ h : j < names.length, names[j] = s := by
  unfold amongB
  simp only [List.any_eq_true, decide_eq_true_eq]
  constructor
  · rintro ⟨x, hx, rfl⟩
    obtain ⟨j, hj, rfl⟩ := List.mem_iff_getElem.1 hx
    exact ⟨j, hj, rfl⟩
  · rintro ⟨j, hj, rfl⟩
    exact ⟨_, List.getElem_mem hj, rfl⟩

theorem only_take {names : List ByteArray} {l : List (ByteArray × Int)} {k : Nat} (hk : k < l.length) :
    onlyM names (l.take (k + 1)) = onlyM names (l.take k) ++ (if amongB names l[k].1 = true then [l[k]] else []) := by
  unfold onlyM
  rw [List.take_succ_eq_append_getElem hk, List.filter_append]
  by_cases h : amongB names l[k].1 = true <;> simp [h]
theorem only_len {names : List ByteArray} {l : List (ByteArray × Int)} (k : Nat) : (onlyM names (l.take k)).length ≤ l.length := by
  unfold onlyM
  exact Nat.le_trans (List.length_filter_le _ _) (by rw [List.length_take]; omega)

/-- 'b' says whether 'x' is among the first 'j' names. -/
def HasB (names : List ByteArray) (j : Nat) (x : ByteArray) (b : Bool) : Prop := b = true ↔ ∃ q, ∃ hq : q < names.length, q < j ∧ names[q] = x
theorem hasB_start (names : List ByteArray) (x : ByteArray) : HasB names 0 x false := ⟨fun h => (by cases h), fun ⟨q, _, h, _⟩ => by omega⟩
theorem hasB_hit {names : List ByteArray} {j : Nat} {x : ByteArray} (hj : j < names.length) (he : names[j] = x) : HasB names (j + 1) x true := ⟨fun _ => ⟨j, hj, by omega, he⟩, fun _ => rfl⟩
theorem hasB_no {names : List ByteArray} {j : Nat} {x : ByteArray} (h : HasB names j x false) {hj : j < names.length} (he : ¬ names[j] = x) : HasB names (j + 1) x false := by
  refine ⟨fun h => (by cases h), ?_⟩
  rintro ⟨q, hq, hlt, e⟩
  by_cases hqj : q = j
  · subst hqj; exact absurd e he
  · exact h.2 ⟨q, hq, by omega, e⟩
theorem hasB_yes {names : List ByteArray} {j : Nat} {x : ByteArray} (h : HasB names j x true) : HasB names (j + 1) x true := by
  refine ⟨fun _ => ?_, fun _ => rfl⟩
  obtain ⟨q, hq, hlt, e⟩ := h.1 rfl
  exact ⟨q, hq, by omega, e⟩
theorem hasB_all {names : List ByteArray} {j : Nat} {x : ByteArray} {b : Bool} (h : HasB names j x b) (hj : names.length ≤ j) : amongB names x = b := by
  have h' : b = true ↔ amongB names x = true := by
    unfold HasB at h
    rw [h, among_iff]
    exact ⟨fun ⟨q, hq, _, e⟩ => ⟨q, hq, e⟩, fun ⟨q, hq, e⟩ => ⟨q, hq, by omega, e⟩⟩
  cases b <;> cases hA : amongB names x <;> simp_all

/-- What StampOnly answers. -/
def IsO (l : List (ByteArray × Int)) (names : List ByteArray) (m : List (ByteArray × Int)) : Prop := (StampP l → m = onlyM names l) ∧ (¬ StampP l → m = [])
theorem IsO.one {l : List (ByteArray × Int)} {names : List ByteArray} {u v : List (ByteArray × Int)} (h : IsO l names u) (h' : IsO l names v) : u = v := by
  by_cases hp : StampP l
  · rw [h.1 hp, h'.1 hp]
  · rw [h.2 hp, h'.2 hp]

end Go.Proofs.Ytlhdjbepjfojbac
