/- Plain mathematics: what stands side by side of two stamps; joins. -/
import Derived.Test.YtpfhegengmlkmacGreatDoorMath2
namespace Go.Proofs.YtpfhegengmlkmacGreatDoor

/-- 'P' tells of each source that one of both has both versions, in the order of the sources. -/
structure PSpec (a b : List (ByteArray × Int)) (P : List ((ByteArray × Int) × (ByteArray × Int))) : Prop where
  mem : ∀ p ∈ P, p.1 = (p.1.1, getM a p.1.1) ∧ p.2 = (p.1.1, getM b p.1.1) ∧ (0 < p.1.2 ∨ 0 < p.2.2)
  all : ∀ s, 0 < getM a s ∨ 0 < getM b s → ∃ p ∈ P, p.1.1 = s
  asc : P.Pairwise (fun p q => Asc p.1.1 q.1.1)

theorem pspec_nil : PSpec [] [] [] := ⟨by simp, by simp [getM], List.Pairwise.nil⟩

theorem pspec_cons {a b a' b' : List (ByteArray × Int)} {P : List ((ByteArray × Int) × (ByteArray × Int))} {t : ByteArray} {va vb : Int}
    (ha : ∀ s, getM a s = if s = t then va else getM a' s) (hb : ∀ s, getM b s = if s = t then vb else getM b' s) (hp : 0 < va ∨ 0 < vb)
    (ka : ∀ s, 0 < getM a' s → Asc t s) (kb : ∀ s, 0 < getM b' s → Asc t s) (h : PSpec a' b' P) : PSpec a b (((t, va), (t, vb)) :: P) := by
  have above : ∀ p ∈ P, Asc t p.1.1 := fun p hm => by
    obtain ⟨e1, e2, e3⟩ := h.mem p hm
    rcases e3 with e3 | e3
    · exact ka _ (by rw [e1] at e3; exact e3)
    · exact kb _ (by rw [e2] at e3; exact e3)
  refine ⟨fun p hm => ?_, fun s hs => ?_, List.pairwise_cons.2 ⟨fun p hm => above p hm, h.asc⟩⟩
  · rcases List.mem_cons.1 hm with rfl | hm
    · refine ⟨?_, ?_, hp⟩
      · simp [ha]
      · simp [hb]
    · obtain ⟨e1, e2, e3⟩ := h.mem p hm
      have hne : ¬ p.1.1 = t := Ne.symm (asc_ne (above p hm))
      exact ⟨by rw [ha, if_neg hne]; exact e1, by rw [hb, if_neg hne]; exact e2, e3⟩
  · by_cases e : s = t
    · subst e; exact ⟨_, List.mem_cons_self, rfl⟩
    · rw [ha, if_neg e, hb, if_neg e] at hs
      obtain ⟨p, hm, hp⟩ := h.all s hs
      exact ⟨p, List.mem_cons_of_mem _ hm, hp⟩

theorem get_head {m : ByteArray × Int} {l : List (ByteArray × Int)} (_ : Sorted (m :: l)) (s : ByteArray) : getM (m :: l) s = if s = m.1 then m.2 else getM l s := by
  rw [getM]
  by_cases e : m.1 = s
  · rw [if_pos e, if_pos e.symm]
  · rw [if_neg e, if_neg (Ne.symm e)]
theorem get_low {t : ByteArray} {l : List (ByteArray × Int)} (h : ∀ m ∈ l, Asc t m.1) (s : ByteArray) : getM l s = if s = t then 0 else getM l s := by
  by_cases e : s = t
  · subst e; rw [if_pos rfl, getM_not_mem fun m hm => Ne.symm (asc_ne (h m hm))]
  · rw [if_neg e]
theorem get_above {t : ByteArray} {l : List (ByteArray × Int)} (h : ∀ m ∈ l, Asc t m.1) (s : ByteArray) (hs : 0 < getM l s) : Asc t s := h _ (getM_pos hs)

theorem pairs_spec : ∀ (n : Nat) (a b : List (ByteArray × Int)), Sorted a → Sorted b → a.length + b.length ≤ n → PSpec a b (pairsF n a b)
  | 0, a, b, _, _, h => by
    obtain rfl : a = [] := List.length_eq_zero_iff.1 (by omega)
    obtain rfl : b = [] := List.length_eq_zero_iff.1 (by omega)
    exact pspec_nil
  | n + 1, [], [], _, _, _ => pspec_nil
  | n + 1, m :: a, [], ha, _, h => by
    have h0 := sorted_head ha
    simp only [pairsF, headP]
    rw [if_pos (by omega), if_neg (by omega)]
    exact pspec_cons (get_head ha) (get_low (by simp)) (.inl (by omega)) (get_above fun x hx => sorted_above ha hx) (by simp [getM]) (pairs_spec n a [] (sorted_tail ha) sorted_nil (by simp at h ⊢; omega))
  | n + 1, [], m :: b, _, hb, h => by
    have h0 := sorted_head hb
    simp only [pairsF, headP]
    rw [if_neg (by omega), if_pos (by omega)]
    exact pspec_cons (get_low (by simp)) (get_head hb) (.inr (by omega)) (by simp [getM]) (get_above fun x hx => sorted_above hb hx) (pairs_spec n [] b sorted_nil (sorted_tail hb) (by simp at h ⊢; omega))
  | n + 1, x :: a, y :: b, ha, hb, h => by
    have hx := sorted_head ha
    have hy := sorted_head hb
    by_cases h1 : Op.bytesLess x.1.toList y.1.toList = true
    · simp only [pairsF, headP, h1, if_true]
      rw [if_pos (by omega), if_neg (by omega)]
      have low : ∀ m ∈ y :: b, Asc x.1 m.1 := fun m hm => by
        rcases List.mem_cons.1 hm with rfl | hm
        · exact h1
        · exact asc_trans h1 (sorted_above hb hm)
      exact pspec_cons (get_head ha) (get_low low) (.inl (by omega)) (get_above fun x hx => sorted_above ha hx) (get_above low) (pairs_spec n a (y :: b) (sorted_tail ha) hb (by simp at h ⊢; omega))
    · by_cases h2 : Op.bytesLess y.1.toList x.1.toList = true
      · have hy' : 0 < y.2 := by omega
        have hP : pairsF (n + 1) (x :: a) (y :: b) = ((y.1, 0), y) :: pairsF n (x :: a) b := by simp [pairsF, headP, h1, h2, hy']
        rw [hP]
        have low : ∀ m ∈ x :: a, Asc y.1 m.1 := fun m hm => by
          rcases List.mem_cons.1 hm with rfl | hm
          · exact h2
          · exact asc_trans h2 (sorted_above ha hm)
        exact pspec_cons (get_low low) (get_head hb) (.inr (by omega)) (get_above low) (get_above fun x hx => sorted_above hb hx) (pairs_spec n (x :: a) b ha (sorted_tail hb) (by simp at h ⊢; omega))
      · have e : x.1 = y.1 := asc_tri h1 h2
        have hx' : 0 < x.2 := by omega
        have hy' : 0 < y.2 := by omega
        have hP : pairsF (n + 1) (x :: a) (y :: b) = (x, y) :: pairsF n a b := by simp [pairsF, headP, h1, h2, hx', hy']
        rw [hP]
        have e2 : y = (x.1, y.2) := Prod.ext e.symm rfl
        have hb' := get_head hb
        rw [← e] at hb'
        have := pspec_cons (t := x.1) (va := x.2) (vb := y.2) (get_head ha) hb' (.inl (by omega)) (get_above fun x hx => sorted_above ha hx) (get_above fun z hz => by rw [e]; exact sorted_above hb hz) (pairs_spec n a b (sorted_tail ha) (sorted_tail hb) (by simp at h ⊢; omega))
        rw [← e2] at this
        exact this

/-- At most so many. -/
theorem pairs_length : ∀ (n : Nat) (a b : List (ByteArray × Int)), (pairsF n a b).length ≤ n
  | 0, _, _ => by simp [pairsF]
  | n + 1, a, b => by
    simp only [pairsF]
    cases headP a b with
    | none => simp
    | some p => simp; exact pairs_length n _ _

/-- The one with the greater version. -/
def laterM (x y : ByteArray × Int) : ByteArray × Int := if x.2 < y.2 then y else x
/-- The marks of the join. -/
def joinP (P : List ((ByteArray × Int) × (ByteArray × Int))) : List (ByteArray × Int) := P.map fun p => laterM p.1 p.2

end Go.Proofs.YtpfhegengmlkmacGreatDoor
