/- append of one mark onto marks that the call gathers: which blocks turn, as the iterator's rounds ask it. -/
import Derived.Test.YtpfhegengmlkmabAppM0
import Derived.Test.YtpfhegengmlkmabSide
namespace Go.Proofs.Ytpfhegengmlkmab
open Go.RowKit Go.BigFrame

theorem Appended.ks {base lo hi : Nat} {w w' : World} (h : Appended base w w') (hb : lo ≤ base) : KS lo hi w w' := by
  rcases h with h | ⟨g, hg, ⟨u, hu⟩, h⟩
  · exact ⟨h.size, fun k o _ hk _ => (h.block k (Array.getElem?_eq_some_iff.1 hk).1 (by simp)).trans hk⟩
  · refine ⟨h.size, fun k o hn hk _ => (h.block k (Array.getElem?_eq_some_iff.1 hk).1 ?_).trans hk⟩
    intro e
    obtain rfl : k = g := by simpa using e
    rcases hn with hn | ⟨_, hn⟩
    · omega
    · rw [hu] at hn; cases hn
theorem Appended.keeps {base : Nat} {w w' : World} (h : Appended base w w') : KeepsOthers w w' := by
  rcases h with h | ⟨g, hg, ⟨u, hu⟩, h⟩
  · exact KeepsOthers.of_grownBy h (fun j o e => by cases e)
  · refine KeepsOthers.of_grownBy h (fun j o e hj => ?_)
    obtain rfl : g = j := by simpa using e
    obtain ⟨ob, h1, h2⟩ := cell_obj hu
    rw [h1] at hj
    cases hj
    exact h2

end Go.Proofs.Ytpfhegengmlkmab
