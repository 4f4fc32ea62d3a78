/- Marking of items: markItemS, heldItemS; what it leaves alone. -/
import Derived.Test.YtpfhegengmlkmaaItD
import Derived.Test.YtpfhegengmlkmaaItK
import Derived.Test.YtpfhegengmlkmaaSafe
namespace Go.Proofs.Ytpfhegengmlkmaa
open Go.RowKit Go.BigFrame

/-- What marking from k on leaves of items. -/
def markedI (k : Int) : List ItemL → List ItemL
  | [] => []
  | x :: l => (k, marked (k + 1) x.2.length) :: markedI (k + 1 + 2 * (x.2.length : Int)) l
theorem markedI_length (k : Int) (l : List ItemL) : (markedI k l).length = l.length := by
  induction l generalizing k with
  | nil => rfl
  | cons x l ih => simp [markedI, ih]
theorem markedI_at (k : Int) (l : List ItemL) (j : Nat) (h : j < l.length) : (markedI k l)[j]'(by rw [markedI_length]; exact h) = (k + j + 2 * (lens (l.take j) : Int), marked (k + j + 2 * (lens (l.take j) : Int) + 1) l[j].2.length) := by
  induction l generalizing k j with
  | nil => exact absurd h (Nat.not_lt_zero j)
  | cons x l ih =>
    cases j with
    | zero => simp [markedI, lens]
    | succ j =>
      have h' : j < l.length := by simpa using h
      have e := ih (k + 1 + 2 * (x.2.length : Int)) j h'
      simp only [markedI, List.getElem_cons_succ, List.take_succ_cons, lens]
      rw [e]
      have q : k + 1 + 2 * (x.2.length : Int) + j + 2 * (lens (l.take j) : Int) = k + ((j + 1 : Nat) : Int) + 2 * ((x.2.length + lens (l.take j) : Nat) : Int) := by omega
      rw [q]
theorem markedI_lens (k : Int) (l : List ItemL) : lens (markedI k l) = lens l := by
  induction l generalizing k with
  | nil => rfl
  | cons x l ih => simp [markedI, lens, ih, marked_length]

/-- The first j are marked. -/
def mixI (k : Int) (l : List ItemL) (j : Nat) : List ItemL := (markedI k l).take j ++ l.drop j
theorem mixI_length (k : Int) (l : List ItemL) (j : Nat) (h : j ≤ l.length) : (mixI k l j).length = l.length := by
  simp [mixI, markedI_length]; omega
theorem mixI_zero (k : Int) (l : List ItemL) : mixI k l 0 = l := by simp [mixI]
theorem mixI_all (k : Int) (l : List ItemL) : mixI k l l.length = markedI k l := by
  rw [mixI, List.drop_of_length_le (Nat.le_refl _), List.append_nil, List.take_of_length_le (by rw [markedI_length]; exact Nat.le_refl _)]
theorem mixI_at (k : Int) (l : List ItemL) (j : Nat) (h : j < l.length) : (mixI k l j)[j]'(by rw [mixI_length k l j (by omega)]; exact h) = l[j] := by
  simp only [mixI]
  rw [List.getElem_append_right (by simp [markedI_length]; omega)]
  simp [markedI_length]
  congr 1
  omega
theorem mixI_set (k : Int) (l : List ItemL) (j : Nat) (h : j < l.length) : (mixI k l j).set j ((markedI k l)[j]'(by rw [markedI_length]; exact h)) = mixI k l (j + 1) := by
  have hm := markedI_length k l
  apply List.ext_getElem
  · rw [List.length_set, mixI_length k l j (by omega), mixI_length k l (j + 1) (by omega)]
  intro i h1 h2
  rw [List.getElem_set]
  rw [List.length_set, mixI_length k l j (by omega)] at h1
  by_cases e : j = i
  · subst e
    rw [if_pos rfl]
    simp only [mixI]
    rw [List.getElem_append_left (by simp; omega), List.getElem_take]
  · rw [if_neg e]
    simp only [mixI]
    by_cases hlt : i < j
    · rw [List.getElem_append_left (by simp; omega), List.getElem_append_left (by simp; omega), List.getElem_take, List.getElem_take]
    · rw [List.getElem_append_right (by simp; omega), List.getElem_append_right (by simp; omega), List.getElem_drop, List.getElem_drop]
      congr 1
      simp
      omega

/-- An item's marks are turned, and its value. -/
theorem PartI.turn {w : World} {lo T g : Nat} {l : List ItemL} (h : PartI w lo T g l l.length) {j : Nat} (hj : j < l.length) :
    ∃ b c, w.cell? ⟨g, j * 2 + 1, none⟩ = some (.slice (some ⟨b, 0, none⟩) l[j].2.length c) ∧ Own w b l[j].2 ∧ lo ≤ b ∧ b < T ∧ b ≠ g ∧
      ∀ (x : Int) (m : List (ByteArray × Int)) (w2 : World), m.length = l[j].2.length → But b (w.setCell ⟨g, j * 2, none⟩ (.int .i64 x)) w2 → Own w2 b m → PartI w2 lo T g (l.set j (x, m)) (l.set j (x, m)).length := by
  have hg := h.lt
  obtain ⟨G, C, m0, f, h, hm, hf, hd⟩ := h
  obtain ⟨f1, f2, f3, f4, f5, f6, f7⟩ := hf j hj hj
  refine ⟨G j, C j, by rw [h.cell (by omega), f2], f4, f5, f6, f7, fun x m w2 hml hb ho => ?_⟩
  refine ⟨G, C, m0, _, (h.set (j * 2) (.int .i64 x)).of_block (hb.block g (by simpa [World.setCell] using hg) (Ne.symm f7)), by rw [List.length_set]; exact hm, fun i hi _ => ?_, fun i k hi hk => hd i k (by simpa using hi) (by simpa using hk)⟩
  rw [List.length_set] at hi
  by_cases e : j = i
  · subst e
    simp only [List.getElem_set_self]
    refine ⟨by simp, ?_, by rw [hml]; exact f3, ho, f5, f6, f7⟩
    rw [hml]
    have e1 : j * 2 + 1 ≠ j * 2 := by omega
    simp only [if_neg e1]
    exact f2
  · obtain ⟨i1, i2, i3, i4, i5, i6, i7⟩ := hf i hi hi
    have e1 : i * 2 ≠ j * 2 := by omega
    have e2 : i * 2 + 1 ≠ j * 2 := by omega
    simp only [List.getElem_set_ne e, if_neg e1, if_neg e2]
    exact ⟨i1, i2, i3, hb.own (i4.setOther i7 _ _) (hd i j hi hj (Ne.symm e)), i5, i6, i7⟩

theorem Span.trans {lo hi : Nat} {x y z : World} (h : Span lo hi x y) (k : Span lo hi y z) : Span lo hi x z :=
  ⟨k.os.trans h.os, k.tape.trans h.tape, k.output.trans h.output, Nat.le_trans h.size k.size, fun i hi hn => (k.block i (Nat.lt_of_lt_of_le hi h.size) hn).trans (h.block i hi hn)⟩
theorem Span.setCell {lo hi g : Nat} {x w : World} (h : Span lo hi x w) (h1 : lo ≤ g) (h2 : g < hi) (i : Nat) (v : Value) : Span lo hi x (w.setCell ⟨g, i, none⟩ v) :=
  h.trans (((But.refl g w).setCell i v).span h1 h2)

end Go.Proofs.Ytpfhegengmlkmaa
