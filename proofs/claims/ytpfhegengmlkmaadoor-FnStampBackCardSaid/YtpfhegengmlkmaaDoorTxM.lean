/- Mathematics of writing a stamp's text. No program here. -/
import Derived.Test.YtpfhegengmlkmaaDoorMath
import Derived.Lib.ItoaNum
import Derived.Lib.Join
namespace Go.Proofs.YtpfhegengmlkmaaDoor

def wordB (m : ByteArray × Int) : List UInt8 := m.1.data.toList ++ 58 :: Lib.decDigits m.2.toNat
def textB (l : List (ByteArray × Int)) : List UInt8 := Lib.join (l.map wordB) [32]
/-- The text of marks: of what is no stamp it is empty. -/
def IsTx (l : List (ByteArray × Int)) (s : ByteArray) : Prop := (StampP l → s.data.toList = if l = [] then [45] else textB l) ∧ (¬ StampP l → s.data.toList = [])
theorem data_eq {s t : ByteArray} (h : s.data.toList = t.data.toList) : s = t := by
  cases s; cases t
  simpa using h
theorem IsTx.one {l : List (ByteArray × Int)} {s t : ByteArray} (h : IsTx l s) (k : IsTx l t) : s = t := by
  by_cases hp : StampP l
  · exact data_eq ((h.1 hp).trans (k.1 hp).symm)
  · exact data_eq ((h.2 hp).trans (k.2 hp).symm)
theorem join_snoc (xs : List (List UInt8)) (x sep : List UInt8) (h : xs ≠ []) : Lib.join (xs ++ [x]) sep = Lib.join xs sep ++ (sep ++ x) := by
  cases xs with
  | nil => exact absurd rfl h
  | cons y r =>
    rw [List.cons_append, Lib.join_cons, Lib.join_cons]
    simp [Lib.joinTail]
theorem decDigits_small {u : Nat} (h : u < 10) : Lib.decDigits u = [UInt8.ofNat (48 + u)] := by rw [Lib.decDigits, dif_pos h]
theorem decDigits_step {u : Nat} (h : ¬ u < 10) : Lib.decDigits u = Lib.decDigits (u / 10) ++ [UInt8.ofNat (48 + u % 10)] := by rw [Lib.decDigits, dif_neg h]
theorem decDigits_len : ∀ (n u : Nat), u ≤ n → (Lib.decDigits u).length ≤ u + 1 := by
  intro n
  induction n with
  | zero => intro u hu; rw [decDigits_small (by omega)]; simp
  | succ n ih =>
    intro u hu
    by_cases h : u < 10
    · rw [decDigits_small h]; simp
    · rw [decDigits_step h, List.length_append, List.length_singleton]
      have := ih (u / 10) (by omega)
      omega
/-- What is still to be written ahead of 's'. -/
def DecI (k q : Nat) (s : List UInt8) : Prop := (q = 0 → s = Lib.decDigits k) ∧ (0 < q → Lib.decDigits k = Lib.decDigits q ++ s)
theorem decI_start {k : Nat} (h : 0 < k) : DecI k k [] := ⟨fun e => by omega, fun _ => by simp⟩
theorem decI_step {k q : Nat} {s : List UInt8} (hq : 0 < q) (h : DecI k q s) : DecI k (q / 10) (UInt8.ofNat (48 + q % 10) :: s) := by
  have h2 := h.2 hq
  refine ⟨fun e => ?_, fun e => ?_⟩
  · have hl : q < 10 := by omega
    rw [h2, decDigits_small hl, show q % 10 = q by omega]; rfl
  · rw [h2, decDigits_step (by omega : ¬ q < 10), List.append_assoc]; rfl
theorem wordB_len {m : ByteArray × Int} (h : MarkP m) : (wordB m).length ≤ 1099511627786 := by
  unfold wordB
  rw [List.length_append, List.length_cons]
  have h1 := decDigits_len _ m.2.toNat (Nat.le_refl _)
  have h2 := h.2.2
  have h3 := h.1.2.1
  have h4 : m.1.data.toList.length = m.1.size := Array.length_toList
  omega
theorem textB_snoc {l : List (ByteArray × Int)} {k : Nat} (hk : k < l.length) (h0 : 0 < k) : textB (l.take (k + 1)) = textB (l.take k) ++ (32 :: wordB l[k]) := by
  unfold textB
  rw [List.take_succ_eq_append_getElem hk, List.map_append, List.map_singleton, join_snoc _ _ _ (by
    intro e
    have := congrArg List.length e
    simp at this
    rcases this with h | h
    · omega
    · subst h; simp at hk)]
  rfl
theorem textB_first {l : List (ByteArray × Int)} (hk : 0 < l.length) : textB (l.take 1) = wordB l[0] := by
  unfold textB
  rw [List.take_succ_eq_append_getElem hk, List.take_zero, List.nil_append, List.map_singleton, Lib.join_one]
theorem textB_len {l : List (ByteArray × Int)} (h : ∀ j, (hj : j < l.length) → MarkP l[j]) : ∀ k, k ≤ l.length → (textB (l.take k)).length ≤ k * 1099511627787 := by
  intro k
  induction k with
  | zero => intro _; simp [textB, Lib.join_nil]
  | succ k ih =>
    intro hk
    have h1 := wordB_len (h k (by omega))
    by_cases h0 : 0 < k
    · rw [textB_snoc (by omega) h0, List.length_append, List.length_cons]
      have := ih (by omega)
      omega
    · obtain rfl : k = 0 := by omega
      rw [textB_first (by omega)]
      omega

end Go.Proofs.YtpfhegengmlkmaaDoor
