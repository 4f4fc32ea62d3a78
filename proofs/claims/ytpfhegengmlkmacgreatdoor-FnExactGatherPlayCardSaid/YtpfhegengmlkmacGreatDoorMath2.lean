/- Plain mathematics of stamps, more: the order of sources, versions told by a function, two stamps side by side. -/
import Derived.Test.YtpfhegengmlkmacGreatDoorMath
namespace Go.Proofs.YtpfhegengmlkmacGreatDoor

theorem bl_irrefl : ∀ x : List UInt8, Op.bytesLess x x = false
  | [] => rfl
  | a :: x => by simp [Op.bytesLess, bl_irrefl x]
theorem bl_trans : ∀ {x y z : List UInt8}, Op.bytesLess x y = true → Op.bytesLess y z = true → Op.bytesLess x z = true
  | [], [], _, h, _ => by simp [Op.bytesLess] at h
  | [], _ :: _, [], _, h => by simp [Op.bytesLess] at h
  | [], _ :: _, _ :: _, _, _ => by simp [Op.bytesLess]
  | _ :: _, [], _, h, _ => by simp [Op.bytesLess] at h
  | _ :: _, _ :: _, [], _, h => by simp [Op.bytesLess] at h
  | a :: x, b :: y, c :: z, h1, h2 => by
    simp only [Op.bytesLess, Bool.or_eq_true, Bool.and_eq_true, decide_eq_true_eq, beq_iff_eq] at h1 h2 ⊢
    rcases h1 with h1 | ⟨rfl, h1⟩
    · rcases h2 with h2 | ⟨rfl, h2⟩
      · exact .inl (UInt8.lt_trans h1 h2)
      · exact .inl h1
    · rcases h2 with h2 | ⟨rfl, h2⟩
      · exact .inl h2
      · exact .inr ⟨rfl, bl_trans h1 h2⟩
theorem bl_tri : ∀ {x y : List UInt8}, Op.bytesLess x y = false → Op.bytesLess y x = false → x = y
  | [], [], _, _ => rfl
  | [], _ :: _, h, _ => by simp [Op.bytesLess] at h
  | _ :: _, [], _, h => by simp [Op.bytesLess] at h
  | a :: x, b :: y, h1, h2 => by
    simp only [Op.bytesLess, Bool.or_eq_false_iff, Bool.and_eq_false_iff, decide_eq_false_iff_not, beq_eq_false_iff_ne] at h1 h2
    have hab : a = b := UInt8.le_antisymm (UInt8.not_lt.1 h2.1) (UInt8.not_lt.1 h1.1)
    subst hab
    have e1 : Op.bytesLess x y = false := h1.2.resolve_left (fun h => h rfl)
    have e2 : Op.bytesLess y x = false := h2.2.resolve_left (fun h => h rfl)
    rw [bl_tri e1 e2]

theorem asc_irrefl (s : ByteArray) : ¬ Asc s s := by unfold Asc; rw [bl_irrefl]; simp
theorem asc_trans {s t u : ByteArray} (h : Asc s t) (k : Asc t u) : Asc s u := bl_trans h k
theorem asc_tri {s t : ByteArray} (h : ¬ Asc s t) (k : ¬ Asc t s) : s = t :=
  toList_inj (bl_tri (by simpa [Asc] using h) (by simpa [Asc] using k))
theorem asc_ne {s t : ByteArray} (h : Asc s t) : s ≠ t := fun e => asc_irrefl t (e ▸ h)
theorem asc_not {s t : ByteArray} (h : Asc s t) : ¬ Asc t s := fun k => asc_irrefl s (asc_trans h k)

/-- Sources ascend, versions are there. -/
def Sorted (l : List (ByteArray × Int)) : Prop := l.Pairwise (fun x y => Asc x.1 y.1) ∧ ∀ m ∈ l, 1 ≤ m.2

theorem sorted_nil : Sorted [] := ⟨List.Pairwise.nil, by simp⟩
theorem sorted_tail {m : ByteArray × Int} {l : List (ByteArray × Int)} (h : Sorted (m :: l)) : Sorted l := ⟨(List.pairwise_cons.1 h.1).2, fun x hx => h.2 x (List.mem_cons_of_mem _ hx)⟩
theorem sorted_head {m : ByteArray × Int} {l : List (ByteArray × Int)} (h : Sorted (m :: l)) : 1 ≤ m.2 := h.2 m (by simp)
theorem sorted_above {m : ByteArray × Int} {l : List (ByteArray × Int)} (h : Sorted (m :: l)) {x : ByteArray × Int} (hx : x ∈ l) : Asc m.1 x.1 := (List.pairwise_cons.1 h.1).1 x hx

theorem pairwise_of_adj : ∀ {l : List (ByteArray × Int)}, (∀ j, (h : j + 1 < l.length) → Asc l[j].1 l[j + 1].1) → l.Pairwise (fun x y => Asc x.1 y.1)
  | [], _ => List.Pairwise.nil
  | [m], _ => List.pairwise_singleton _ _
  | m :: n :: r, h => by
    have ih : (n :: r).Pairwise (fun x y => Asc x.1 y.1) := pairwise_of_adj fun j hj => h (j + 1) (by simpa using hj)
    refine List.pairwise_cons.2 ⟨fun x hx => ?_, ih⟩
    have h0 : Asc m.1 n.1 := h 0 (by simp)
    rcases List.mem_cons.1 hx with rfl | hx
    · exact h0
    · exact asc_trans h0 ((List.pairwise_cons.1 ih).1 x hx)
theorem stamp_sorted {l : List (ByteArray × Int)} (h : StampP l) : Sorted l :=
  ⟨pairwise_of_adj h.2.2, fun m hm => by
    obtain ⟨j, hj, rfl⟩ := List.mem_iff_getElem.1 hm
    exact (h.2.1 j hj).2.1⟩

theorem getM_not_mem {s : ByteArray} : ∀ {l : List (ByteArray × Int)}, (∀ m ∈ l, m.1 ≠ s) → getM l s = 0
  | [], _ => rfl
  | m :: r, h => by rw [getM, if_neg (h m (by simp))]; exact getM_not_mem fun x hx => h x (List.mem_cons_of_mem _ hx)
theorem getM_mem {m : ByteArray × Int} : ∀ {l : List (ByteArray × Int)}, Sorted l → m ∈ l → getM l m.1 = m.2
  | x :: r, h, hm => by
    rcases List.mem_cons.1 hm with rfl | hm
    · rw [getM, if_pos rfl]
    · rw [getM, if_neg (asc_ne (sorted_above h hm))]
      exact getM_mem (sorted_tail h) hm
theorem getM_pos {s : ByteArray} : ∀ {l : List (ByteArray × Int)}, 0 < getM l s → (s, getM l s) ∈ l
  | [], h => by simp [getM] at h
  | m :: r, h => by
    by_cases e : m.1 = s
    · rw [getM, if_pos e]
      have : (s, m.2) = m := by rw [← e]
      rw [this]; simp
    · rw [getM, if_neg e] at h ⊢
      exact List.mem_cons_of_mem _ (getM_pos h)
theorem getM_nonneg {s : ByteArray} : ∀ {l : List (ByteArray × Int)}, Sorted l → 0 ≤ getM l s
  | [], _ => by simp [getM]
  | m :: r, h => by
    rw [getM]
    split
    · have := sorted_head h; omega
    · exact getM_nonneg (sorted_tail h)

/-- Two sorted lists that tell the same versions are one. -/
theorem sorted_ext : ∀ {k l : List (ByteArray × Int)}, Sorted k → Sorted l → (∀ s, getM k s = getM l s) → k = l
  | [], [], _, _, _ => rfl
  | [], m :: l, _, hl, h => by
    have := h m.1
    rw [getM_mem hl (by simp)] at this
    have := sorted_head hl
    simp [getM] at *
    omega
  | m :: k, [], hk, _, h => by
    have := h m.1
    rw [getM_mem hk (by simp)] at this
    have := sorted_head hk
    simp [getM] at *
    omega
  | m :: k, n :: l, hk, hl, h => by
    have e : m.1 = n.1 := by
      refine asc_tri (fun hlt => ?_) (fun hlt => ?_)
      · have h1 := h m.1
        rw [getM_mem hk (by simp), getM, if_neg (Ne.symm (asc_ne hlt)), getM_not_mem (fun x hx => Ne.symm (asc_ne (asc_trans hlt (sorted_above hl hx))))] at h1
        have := sorted_head hk
        omega
      · have h1 := h n.1
        rw [getM_mem hl (by simp), getM, if_neg (Ne.symm (asc_ne hlt)), getM_not_mem (fun x hx => Ne.symm (asc_ne (asc_trans hlt (sorted_above hk hx))))] at h1
        have := sorted_head hl
        omega
    have e2 : m.2 = n.2 := by
      have h1 := h m.1
      rw [getM_mem hk (by simp), getM, if_pos e.symm] at h1
      exact h1
    have em : m = n := Prod.ext e e2
    subst em
    rw [sorted_ext (sorted_tail hk) (sorted_tail hl) fun s => ?_]
    by_cases hs : m.1 = s
    · subst hs
      rw [getM_not_mem (fun x hx => Ne.symm (asc_ne (sorted_above hk hx))), getM_not_mem (fun x hx => Ne.symm (asc_ne (sorted_above hl hx)))]
    · have h1 := h s
      rwa [getM, if_neg hs, getM, if_neg hs] at h1

/-- What two rests of stamps have of their first source. -/
def headP : List (ByteArray × Int) → List (ByteArray × Int) → Option ((ByteArray × Int) × (ByteArray × Int))
  | [], [] => none
  | m :: _, [] => some (m, (m.1, 0))
  | [], m :: _ => some ((m.1, 0), m)
  | x :: _, y :: _ => if Op.bytesLess x.1.toList y.1.toList then some (x, (x.1, 0)) else if Op.bytesLess y.1.toList x.1.toList then some ((y.1, 0), y) else some (x, y)

/-- Two stamps side by side, by so many steps at the most. -/
def pairsF : Nat → List (ByteArray × Int) → List (ByteArray × Int) → List ((ByteArray × Int) × (ByteArray × Int))
  | 0, _, _ => []
  | n + 1, a, b => match headP a b with
    | none => []
    | some p => p :: pairsF n (if 0 < p.1.2 then a.tail else a) (if 0 < p.2.2 then b.tail else b)

end Go.Proofs.YtpfhegengmlkmacGreatDoor
