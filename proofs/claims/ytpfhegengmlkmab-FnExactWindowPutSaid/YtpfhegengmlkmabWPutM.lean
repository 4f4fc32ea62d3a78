/- What WindowPut answers is few items with stamps. -/
import Derived.Test.YtpfhegengmlkmabWinY
import Derived.Test.YtpfhegengmlkmabItK
namespace Go.Proofs.Ytpfhegengmlkmab
open Go.RowKit Go.BigFrame
set_option maxRecDepth 100000

theorem lens_le {l : List ItemL} {n : Nat} (h : ∀ j, (hj : j < l.length) → l[j].2.length ≤ n) : lens l ≤ l.length * n := by
  induction l with
  | nil => simp [lens]
  | cons y t ih =>
    have h0 := h 0 (by simp)
    have ht := ih (fun j hj => by have := h (j + 1) (by simpa using hj); simpa using this)
    simp only [lens, List.length_cons, List.getElem_cons_zero] at h0 ⊢
    rw [Nat.succ_mul]
    omega
/-- Items with stamps alone. -/
def StampsP (l : List ItemL) : Prop := l.length ≤ 5 ∧ ∀ j, (hj : j < l.length) → StampP l[j].2
theorem StampsP.fit {l : List ItemL} (h : StampsP l) : FitI l := ⟨by have := h.1; unfold maxLen; omega, fun j hj => stamp_fit (h.2 j hj)⟩
theorem StampsP.small {l : List ItemL} (h : StampsP l) : Small1 l := ⟨by have := h.1; omega, fun j hj => by have := (h.2 j hj).1; omega⟩
theorem StampsP.lens {l : List ItemL} (h : StampsP l) : lens l ≤ 60 := by
  have h1 := lens_le (n := 12) (fun j hj => (h.2 j hj).1)
  have := h.1
  omega
theorem isP_stamps {l : List ItemL} {x : Int} {m : List (ByteArray × Int)} {r : List ItemL} {c : Int} (h : IsP l x m r c) : StampsP r := by
  by_cases hp : WinP l ∧ StampP m ∧ m ≠ []
  · have hs : ∀ k, (h : k < l.length) → StampP l[k].2 := fun k hk => (hp.1.2.1 k hk).1
    have h4 := hp.1.1
    by_cases ht : TakeP l m
    · rw [(h.2.2 hp ht).1]
      unfold putL
      split
      · exact ⟨by simp; omega, stamps_put hs hp.2.1⟩
      · exact ⟨by simp; omega, stamps_put (stamps_tail hs) hp.2.1⟩
    · rw [(h.2.1 hp ht).1]
      exact ⟨by omega, hs⟩
  · rw [(h.1 hp).1]
    exact ⟨by simp, fun j hj => absurd hj (Nat.not_lt_zero j)⟩

end Go.Proofs.Ytpfhegengmlkmab
