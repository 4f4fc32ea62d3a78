/- Plain mathematics of stamps: no program here. Marks are pairs of a source's bytes and a version. -/
import GoSem.Op.String
import Derived.Laws.Strings
namespace Go.Proofs.YtpfhegengmlkmacGreatDoor

/-- A byte of a name. -/
def NB (c : Int) : Prop := (97 ≤ c ∧ c ≤ 122) ∨ (48 ≤ c ∧ c ≤ 57) ∨ c = 45
/-- A name. -/
def NameP (s : ByteArray) : Prop := 1 ≤ s.size ∧ s.size ≤ 8 ∧ ∀ j, (h : j < s.size) → NB (s[j].toNat : Int)
/-- A mark that may stand in a stamp. -/
def MarkP (m : ByteArray × Int) : Prop := NameP m.1 ∧ 1 ≤ m.2 ∧ m.2 ≤ 1099511627776
/-- Two sources that ascend, as Go's '<' has it. -/
def Asc (s t : ByteArray) : Prop := Op.bytesLess s.toList t.toList = true
/-- A stamp. -/
def StampP (l : List (ByteArray × Int)) : Prop := l.length ≤ 12 ∧ (∀ j, (h : j < l.length) → MarkP l[j]) ∧ ∀ j, (h : j + 1 < l.length) → Asc l[j].1 l[j + 1].1
/-- The first k marks are as in a stamp. -/
def StampTo (l : List (ByteArray × Int)) (k : Nat) : Prop := (∀ j, (h : j < l.length) → j < k → MarkP l[j]) ∧ ∀ j, (h : j + 1 < l.length) → j + 1 < k → Asc l[j].1 l[j + 1].1

theorem stampTo_zero (l : List (ByteArray × Int)) : StampTo l 0 := ⟨fun _ _ h => by omega, fun _ _ h => by omega⟩
theorem stampTo_step {l : List (ByteArray × Int)} {k : Nat} (H : StampTo l k) (hk : k < l.length) (hm : MarkP l[k]) (ha : 0 < k → Asc l[k - 1].1 l[k].1) : StampTo l (k + 1) := by
  refine ⟨fun j hj hlt => ?_, fun j hj hlt => ?_⟩
  · by_cases e : j = k
    · subst e; exact hm
    · exact H.1 j hj (by omega)
  · by_cases e : j + 1 = k
    · subst e; exact ha (by omega)
    · exact H.2 j hj (by omega)
theorem asc_at {l : List (ByteArray × Int)} (h : StampP l) {k : Nat} (h0 : ¬ k < 1) (hk : k < l.length) : Asc l[k - 1].1 l[k].1 := by
  obtain ⟨m, rfl⟩ : ∃ m, k = m + 1 := ⟨k - 1, by omega⟩
  exact h.2.2 m hk
theorem stampP_of {l : List (ByteArray × Int)} {k : Nat} (H : StampTo l k) (hk : ¬ k < l.length) (h : l.length ≤ 12) : StampP l :=
  ⟨h, fun j hj => H.1 j hj (by omega), fun j hj => H.2 j hj (by omega)⟩

theorem toList_inj {s t : ByteArray} (h : s.toList = t.toList) : s = t := by
  rw [ByteArray.toList_eq, ByteArray.toList_eq] at h
  cases s; cases t
  simpa using h
theorem toList_beq {s t : ByteArray} : (s.toList == t.toList) = true ↔ s = t := by
  rw [beq_iff_eq]
  exact ⟨toList_inj, fun h => by rw [h]⟩
theorem toList_bne {s t : ByteArray} : (s.toList == t.toList) = false ↔ s ≠ t := by
  rw [beq_eq_false_iff_ne]
  exact ⟨fun h e => h (by rw [e]), fun h e => h (toList_inj e)⟩

/-- The version of a source: of the first mark that has it, 0 where none has. -/
def getM : List (ByteArray × Int) → ByteArray → Int
  | [], _ => 0
  | m :: r, s => if m.1 = s then m.2 else getM r s

theorem getM_none {s : ByteArray} : ∀ {l : List (ByteArray × Int)}, (∀ j, (h : j < l.length) → l[j].1 ≠ s) → getM l s = 0
  | [], _ => rfl
  | m :: r, h => by
    have h0 : m.1 ≠ s := h 0 (by simp)
    rw [getM, if_neg h0]
    exact getM_none fun j hj => h (j + 1) (by simpa using hj)
theorem getM_at {s : ByteArray} : ∀ {l : List (ByteArray × Int)} {k : Nat} (hk : k < l.length), (∀ j, (h : j < l.length) → j < k → l[j].1 ≠ s) → l[k].1 = s → getM l s = l[k].2
  | m :: r, 0, _, _, h => by
    have h0 : m.1 = s := h
    rw [getM, if_pos h0]
    rfl
  | m :: r, k + 1, hk, hb, h => by
    have h0 : m.1 ≠ s := hb 0 (by simp) (by omega)
    rw [getM, if_neg h0]
    exact getM_at (k := k) (by simpa using hk) (fun j hj hlt => hb (j + 1) (by simpa using hj) (by omega)) h

theorem ne_step {s : ByteArray} {l : List (ByteArray × Int)} {k : Nat} (H : ∀ j, (h : j < l.length) → j < k → l[j].1 ≠ s) (hk : k < l.length) (h : l[k].1 ≠ s) : ∀ j, (h : j < l.length) → j < k + 1 → l[j].1 ≠ s := fun j hj hlt => by
  by_cases e : j = k
  · subst e; exact h
  · exact H j hj (by omega)

end Go.Proofs.YtpfhegengmlkmacGreatDoor
