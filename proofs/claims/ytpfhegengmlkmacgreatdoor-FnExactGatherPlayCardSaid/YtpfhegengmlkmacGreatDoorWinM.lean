/- Mathematics of windows and choices: the later of two choices that agree agrees. No program here. -/
import Derived.Test.YtpfhegengmlkmacGreatDoorLawM
namespace Go.Proofs.YtpfhegengmlkmacGreatDoor

theorem agree_get {a b : List (ByteArray × Int)} (ha : StampP a) (hb : StampP b) : AgreeP a b ↔ ∀ s, 0 < getM a s → 0 < getM b s → getM a s = getM b s := by
  have sa := stamp_sorted ha
  have sb := stamp_sorted hb
  constructor
  · rintro ⟨_, _, h⟩ s h1 h2
    obtain ⟨k, hk, ek⟩ := List.mem_iff_getElem.1 (getM_pos h1)
    have := h k hk
    rw [ek] at this
    simp only at this
    omega
  · intro h
    refine ⟨ha, hb, fun i hi => ?_⟩
    have e := getM_mem sa (List.getElem_mem hi)
    have e1 := sa.2 _ (List.getElem_mem hi)
    have e2 := getM_nonneg (s := a[i].1) sb
    by_cases h0 : getM b a[i].1 = 0
    · exact .inl h0
    · right
      rw [← h a[i].1 (by omega) (by omega), e]

/-- An item: its value and its stamp. -/
abbrev ItemM := Int × List (ByteArray × Int)
/-- The same sources, and below. -/
def AboveP (a b : List (ByteArray × Int)) : Prop := namesM a = namesM b ∧ StampP a ∧ StampP b ∧ BelowP a b ∧ ¬ BelowP b a
/-- A window. -/
def WinP (l : List ItemM) : Prop := l.length ≤ 4 ∧ (∀ j, (h : j < l.length) → StampP l[j].2 ∧ l[j].2 ≠ []) ∧ ∀ j, (h : j + 1 < l.length) → AboveP l[j].2 l[j + 1].2
theorem names_get {a b : List (ByteArray × Int)} (ha : StampP a) (hb : StampP b) (h : namesM a = namesM b) (s : ByteArray) : 0 < getM a s ↔ 0 < getM b s := by
  rw [← among_names (stamp_sorted ha), ← among_names (stamp_sorted hb), h]
theorem WinP.names {l : List ItemM} (h : WinP l) : ∀ (d i : Nat) (hj : i + d < l.length), namesM l[i].2 = namesM l[i + d].2
  | 0, _, _ => rfl
  | d + 1, i, hj => (h.names d i (by omega)).trans (h.2.2 (i + d) (by omega)).1
theorem WinP.rise {l : List ItemM} (h : WinP l) : ∀ (d i : Nat) (hj : i + d < l.length) (s : ByteArray), getM l[i].2 s ≤ getM l[i + d].2 s
  | 0, _, _, _ => Int.le_refl _
  | d + 1, i, hj, s => by
    have h1 := h.rise d i (by omega) s
    have ha := h.2.2 (i + d) (by omega)
    have h2 := (belowP_iff (stamp_sorted ha.2.1) (stamp_sorted ha.2.2.1)).1 ha.2.2.2.1 s
    exact Int.le_trans h1 h2
theorem WinP.le {l : List ItemM} (h : WinP l) {i j : Nat} (hij : i ≤ j) (hj : j < l.length) (s : ByteArray) : getM (l[i]'(by omega)).2 s ≤ getM l[j].2 s := by
  obtain ⟨d, rfl⟩ : ∃ d, j = i + d := ⟨j - i, by omega⟩
  exact h.rise d i hj s
theorem WinP.same {l : List ItemM} (h : WinP l) {i j : Nat} (hi : i < l.length) (hj : j < l.length) (s : ByteArray) : 0 < getM l[i].2 s ↔ 0 < getM l[j].2 s := by
  have hn : namesM l[i].2 = namesM l[j].2 := by
    rcases Nat.le_total i j with hij | hij
    · obtain ⟨d, rfl⟩ : ∃ d, j = i + d := ⟨j - i, by omega⟩
      exact h.names d i hj
    · obtain ⟨d, rfl⟩ : ∃ d, i = j + d := ⟨i - j, by omega⟩
      exact (h.names d j hi).symm
  exact names_get (h.2.1 i hi).1 (h.2.1 j hj).1 hn s
/-- Of two windows: where (i, k) and (i', k') agree, the later of both agree. -/
theorem later_agrees {u v : List ItemM} (hu : WinP u) (hv : WinP v) {i i' k k' : Nat} (hi : i < u.length) (hi' : i' < u.length) (hk : k < v.length) (hk' : k' < v.length)
    (h : AgreeP u[i].2 v[k].2) (h' : AgreeP u[i'].2 v[k'].2) : AgreeP (u[max i i']'(by omega)).2 (v[max k k']'(by omega)).2 := by
  have key : ∀ {u v : List ItemM} (_ : WinP u) (_ : WinP v) {i i' k k' : Nat} (hi : i < u.length) (hi' : i' < u.length) (hk : k < v.length) (hk' : k' < v.length), AgreeP u[i].2 v[k].2 → AgreeP u[i'].2 v[k'].2 → i' ≤ i → k ≤ k' → AgreeP u[i].2 v[k'].2 := by
    intro u v hu hv i i' k k' hi hi' hk hk' h h' h1 h2
    rw [agree_get (hu.2.1 i hi).1 (hv.2.1 k' hk').1]
    rw [agree_get (hu.2.1 i hi).1 (hv.2.1 k hk).1] at h
    rw [agree_get (hu.2.1 i' hi').1 (hv.2.1 k' hk').1] at h'
    intro s p1 p2
    have e1 := h s p1 ((hv.same hk hk' s).2 p2)
    have e2 := h' s ((hu.same hi' hi s).2 p1) p2
    have l1 := hu.le h1 hi s
    have l2 := hv.le h2 hk' s
    omega
  rcases Nat.le_total i i' with h1 | h1 <;> rcases Nat.le_total k k' with h2 | h2
  · simp only [Nat.max_eq_right h1, Nat.max_eq_right h2]; exact h'
  · simp only [Nat.max_eq_right h1, Nat.max_eq_left h2]
    exact key hu hv hi' hi hk' hk h' h h1 h2
  · simp only [Nat.max_eq_left h1, Nat.max_eq_right h2]
    exact key hu hv hi hi' hk hk' h h' h1 h2
  · simp only [Nat.max_eq_left h1, Nat.max_eq_left h2]; exact h

end Go.Proofs.YtpfhegengmlkmacGreatDoor
