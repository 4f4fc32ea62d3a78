/- The join of two stamps, in the words of lists. -/
import Derived.Test.YtpfhegengmlkmacGreatDoorMath3
namespace Go.Proofs.YtpfhegengmlkmacGreatDoor

/-- The marks 'l' with 'm' put where it belongs, in the place of what there was of its source. -/
def setR (m : ByteArray × Int) : List (ByteArray × Int) → List (ByteArray × Int)
  | [] => [m]
  | x :: r => if Op.bytesLess x.1.toList m.1.toList = true then x :: setR m r else m :: (x :: r).filter fun y => decide (y.1 ≠ m.1)
/-- What is yet to come of it, behind some marks. -/
def setT (m : ByteArray × Int) (put : Bool) (l : List (ByteArray × Int)) : List (ByteArray × Int) := if put then l.filter fun y => decide (y.1 ≠ m.1) else setR m l

theorem setR_mem {m y : ByteArray × Int} : ∀ {l : List (ByteArray × Int)}, y ∈ setR m l → y = m ∨ y ∈ l
  | [], h => by simp [setR] at h; exact .inl h
  | x :: r, h => by
    unfold setR at h
    split at h
    · rcases List.mem_cons.1 h with rfl | h
      · exact .inr (by simp)
      · exact (setR_mem h).imp id (List.mem_cons_of_mem _)
    · rcases List.mem_cons.1 h with rfl | h
      · exact .inl rfl
      · exact .inr (List.mem_filter.1 h).1
theorem setR_length {m : ByteArray × Int} : ∀ {l : List (ByteArray × Int)}, (setR m l).length ≤ l.length + 1
  | [] => by simp [setR]
  | x :: r => by
    unfold setR
    split
    · have := setR_length (m := m) (l := r); simp only [List.length_cons]; omega
    · simp only [List.length_cons]; have := List.length_filter_le (fun y => decide (y.1 ≠ m.1)) (x :: r); simp only [List.length_cons] at this; omega
theorem setR_snoc {m : ByteArray × Int} : ∀ {l : List (ByteArray × Int)}, (∀ x ∈ l, Asc x.1 m.1) → setR m l = l ++ [m]
  | [], _ => rfl
  | x :: r, h => by
    unfold setR
    rw [if_pos (show Op.bytesLess x.1.toList m.1.toList = true from h x (by simp)), setR_snoc fun y hy => h y (List.mem_cons_of_mem _ hy)]
    rfl
theorem getM_filter {t s : ByteArray} (hs : s ≠ t) : ∀ {l : List (ByteArray × Int)}, getM (l.filter fun y => decide (y.1 ≠ t)) s = getM l s
  | [] => rfl
  | x :: r => by
    have ih := getM_filter hs (l := r)
    by_cases hx : x.1 = t
    · have hd : decide (x.1 ≠ t) = false := by simp [hx]
      rw [List.filter_cons_of_neg (by simp [hx]), ih]
      simp only [getM]
      rw [if_neg (fun e => hs (e.symm.trans hx))]
    · rw [List.filter_cons_of_pos (by simp [hx])]
      simp only [getM, ih]
theorem setR_get {m : ByteArray × Int} (s : ByteArray) : ∀ {l : List (ByteArray × Int)}, getM (setR m l) s = if s = m.1 then m.2 else getM l s
  | [] => by simp only [setR, getM]; by_cases h : s = m.1 <;> simp [h, eq_comm]
  | x :: r => by
    unfold setR
    split
    · rename_i hx
      have hne : x.1 ≠ m.1 := asc_ne hx
      simp only [getM, setR_get (m := m) s (l := r)]
      by_cases h : s = m.1
      · subst h; rw [if_neg hne, if_pos rfl, if_pos rfl]
      · rw [if_neg h, if_neg h]
    · by_cases h : s = m.1
      · subst h; simp [getM]
      · rw [if_neg h]
        simp only [getM]
        rw [if_neg (fun e => h e.symm), getM_filter h]
        simp only [getM]
theorem setR_sorted {m : ByteArray × Int} (hm : 1 ≤ m.2) : ∀ {l : List (ByteArray × Int)}, Sorted l → Sorted (setR m l)
  | [], _ => ⟨by simp [setR], by simp [setR]; exact hm⟩
  | x :: r, h => by
    unfold setR
    split
    · rename_i hx
      have ih := setR_sorted hm (sorted_tail h)
      refine ⟨List.pairwise_cons.2 ⟨fun y hy => ?_, ih.1⟩, fun y hy => ?_⟩
      · rcases setR_mem hy with rfl | hy
        · exact hx
        · exact sorted_above h hy
      · rcases List.mem_cons.1 hy with rfl | hy
        · exact sorted_head h
        · exact ih.2 y hy
    · rename_i hx
      refine ⟨List.pairwise_cons.2 ⟨fun y hy => ?_, List.Pairwise.filter _ h.1⟩, fun y hy => ?_⟩
      · have hmem := (List.mem_filter.1 hy).1
        have hne : y.1 ≠ m.1 := by simpa using (List.mem_filter.1 hy).2
        by_cases hA : Asc m.1 y.1
        · exact hA
        · have : ¬ Asc y.1 m.1 := fun k => by
            rcases List.mem_cons.1 hmem with rfl | hr
            · exact hx k
            · exact hx (asc_trans (sorted_above h hr) k)
          exact absurd (asc_tri this hA) hne
      · rcases List.mem_cons.1 hy with rfl | hy
        · exact hm
        · exact h.2 y (List.mem_filter.1 hy).1

theorem take_low {b : List (ByteArray × Int)} (h : Sorted b) {j : Nat} (hj : j < b.length) : ∀ x ∈ b.take j, Asc x.1 b[j].1 := fun x hx => by
  have hp := h.1
  rw [← List.take_append_drop j b, List.pairwise_append] at hp
  exact hp.2.2 x hx b[j] (List.mem_iff_getElem.2 ⟨0, by simp; omega, by simp⟩)
/-- Getting from a stamp's beginning. -/
theorem getM_take {b : List (ByteArray × Int)} (h : Sorted b) {j : Nat} (hj : j < b.length) (s : ByteArray) : getM (b.take (j + 1)) s = if s = b[j].1 then b[j].2 else getM (b.take j) s := by
  rw [List.take_succ_eq_append_getElem hj]
  rw [← setR_snoc (take_low h hj), setR_get]
theorem getM_take_new {b : List (ByteArray × Int)} (h : Sorted b) {j : Nat} (hj : j < b.length) : getM (b.take j) b[j].1 = 0 :=
  getM_not_mem fun m hm => asc_ne (take_low h hj m hm)

/-- 'o' is the join of both. -/
def JoinOf (a b o : List (ByteArray × Int)) : Prop := Sorted o ∧ ∀ s, getM o s = max (getM a s) (getM b s)
theorem joinOf_start {a b : List (ByteArray × Int)} (ha : Sorted a) : JoinOf a (b.take 0) a := ⟨ha, fun s => by
  have := getM_nonneg (s := s) ha
  have e : getM (b.take 0) s = 0 := by simp [getM]
  rw [e]; omega⟩
theorem joinOf_set {a b o : List (ByteArray × Int)} (hb : Sorted b) {j : Nat} (hj : j < b.length) (h : JoinOf a (b.take j) o) (hlt : getM o b[j].1 < b[j].2) : JoinOf a (b.take (j + 1)) (setR b[j] o) := by
  refine ⟨setR_sorted (hb.2 _ (List.getElem_mem hj)) h.1, fun s => ?_⟩
  have h1 := h.2 s
  rw [setR_get, getM_take hb hj]
  by_cases e : s = b[j].1
  · subst e
    rw [if_pos rfl, if_pos rfl]
    rw [getM_take_new hb hj] at h1
    omega
  · rw [if_neg e, if_neg e]; exact h1
theorem joinOf_keep {a b o : List (ByteArray × Int)} (hb : Sorted b) {j : Nat} (hj : j < b.length) (h : JoinOf a (b.take j) o) (hlt : ¬ getM o b[j].1 < b[j].2) : JoinOf a (b.take (j + 1)) o := by
  refine ⟨h.1, fun s => ?_⟩
  have h1 := h.2 s
  have h2 := hb.2 _ (List.getElem_mem hj)
  rw [getM_take hb hj]
  by_cases e : s = b[j].1
  · subst e
    rw [if_pos rfl]
    rw [getM_take_new hb hj] at h1
    omega
  · rw [if_neg e]; exact h1

/-- What StampJoin answers: the marks and whether. -/
def IsJ (a b m : List (ByteArray × Int)) (ok : Bool) : Prop :=
  (¬ (StampP a ∧ StampP b) ∧ m = [] ∧ ok = false) ∨ (StampP a ∧ StampP b ∧ ∃ o, JoinOf a b o ∧ ((o.length ≤ 12 ∧ m = o ∧ ok = true) ∨ (12 < o.length ∧ m = [] ∧ ok = false)))
theorem IsJ.one {a b m m' : List (ByteArray × Int)} {ok ok' : Bool} (h : IsJ a b m ok) (k : IsJ a b m' ok') : m = m' ∧ ok = ok' := by
  rcases h with ⟨h1, rfl, rfl⟩ | ⟨h1, h2, o, ⟨h3, h4⟩, h5⟩
  · rcases k with ⟨_, rfl, rfl⟩ | ⟨k1, k2, _⟩
    · exact ⟨rfl, rfl⟩
    · exact absurd ⟨k1, k2⟩ h1
  · rcases k with ⟨k1, _, _⟩ | ⟨k1, k2, o', ⟨k3, k4⟩, k5⟩
    · exact absurd ⟨h1, h2⟩ k1
    · obtain rfl : o = o' := sorted_ext h3 k3 fun s => by rw [h4, k4]
      rcases h5 with ⟨e1, rfl, rfl⟩ | ⟨e1, rfl, rfl⟩ <;> rcases k5 with ⟨e2, rfl, rfl⟩ | ⟨e2, rfl, rfl⟩
      · exact ⟨rfl, rfl⟩
      · omega
      · omega
      · exact ⟨rfl, rfl⟩
theorem IsJ.small {a b m : List (ByteArray × Int)} {ok : Bool} (h : IsJ a b m ok) : m.length ≤ 12 := by
  rcases h with ⟨_, rfl, _⟩ | ⟨_, _, o, _, ⟨h, rfl, _⟩ | ⟨_, rfl, _⟩⟩
  · simp
  · exact h
  · simp

theorem laterM_name {p : (ByteArray × Int) × (ByteArray × Int)} (h : p.1.1 = p.2.1) : (laterM p.1 p.2).1 = p.1.1 := by
  unfold laterM
  split
  · exact h.symm
  · rfl
theorem laterM_ver (p : (ByteArray × Int) × (ByteArray × Int)) : (laterM p.1 p.2).2 = max p.1.2 p.2.2 := by
  unfold laterM
  split <;> omega
theorem joinP_of {a b : List (ByteArray × Int)} {P : List ((ByteArray × Int) × (ByteArray × Int))} (ha : Sorted a) (hb : Sorted b) (hP : PSpec a b P) : JoinOf a b (joinP P) := by
  have hn : ∀ p ∈ P, p.1.1 = p.2.1 := fun p hp => by
    obtain ⟨_, e2, _⟩ := hP.mem p hp
    rw [e2]
  have hsort : Sorted (joinP P) := by
    refine ⟨?_, fun m hm => ?_⟩
    · unfold joinP
      rw [List.pairwise_map]
      exact hP.asc.imp_of_mem fun {p q} hp hq h => by rw [laterM_name (hn p hp), laterM_name (hn q hq)]; exact h
    · obtain ⟨p, hp, rfl⟩ := List.mem_map.1 hm
      rw [laterM_ver]
      have := (hP.mem p hp).2.2
      omega
  refine ⟨hsort, fun s => ?_⟩
  have na := getM_nonneg (s := s) ha
  have nb := getM_nonneg (s := s) hb
  by_cases h : 0 < getM a s ∨ 0 < getM b s
  · obtain ⟨p, hp, rfl⟩ := hP.all s h
    have hm : laterM p.1 p.2 ∈ joinP P := List.mem_map.2 ⟨p, hp, rfl⟩
    have e := getM_mem hsort hm
    rw [laterM_name (hn p hp), laterM_ver] at e
    rw [e]
    obtain ⟨e1, e2, _⟩ := hP.mem p hp
    have f1 : p.1.2 = getM a p.1.1 := by rw [e1]
    have f2 : p.2.2 = getM b p.1.1 := by rw [e2]
    rw [f1, f2]
  · rw [getM_not_mem]
    · omega
    · intro m hm e
      obtain ⟨p, hp, rfl⟩ := List.mem_map.1 hm
      rw [laterM_name (hn p hp)] at e
      obtain ⟨e1, e2, e3⟩ := hP.mem p hp
      have f1 : p.1.2 = getM a p.1.1 := by rw [e1]
      have f2 : p.2.2 = getM b p.1.1 := by rw [e2]
      rw [f1, f2, e] at e3
      exact h e3

end Go.Proofs.YtpfhegengmlkmacGreatDoor
