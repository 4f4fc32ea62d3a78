/- The walk of impl.StampAgree. -/
import Derived.Test.YtpfhegengmlkmacSideC
import Derived.Test.YtpfhegengmlkmacWf
import Derived.Test.YtpfhegengmlkmacRoundT
import Derived.Test.YtpfhegengmlkmacSpecAO
namespace Go.Proofs.Ytpfhegengmlkmac
open Go.RowKit Go.Shelf Go.BigFrame
attribute [local go_sem] Oper.semAt_some

/-- A pair that does not agree. -/
def Bad (x : (ByteArray × Int) × (ByteArray × Int)) : Prop := 0 < x.1.2 ∧ 0 < x.2.2 ∧ x.1 ≠ x.2

theorem agree_of_good {a b : List (ByteArray × Int)} {P : List ((ByteArray × Int) × (ByteArray × Int))} (ha : StampP a) (hb : StampP b) (hP : PSpec a b P) (h : ∀ p ∈ P, ¬ Bad p) : AgreeP a b := by
  refine ⟨ha, hb, fun i hi => ?_⟩
  have sa := stamp_sorted ha
  have sb := stamp_sorted hb
  have e1 : getM a a[i].1 = a[i].2 := getM_mem sa (List.getElem_mem hi)
  have e2 := sa.2 _ (List.getElem_mem hi)
  have e3 := getM_nonneg (s := a[i].1) sb
  by_cases h0 : getM b a[i].1 = 0
  · exact .inl h0
  obtain ⟨p, hm, hp⟩ := hP.all a[i].1 (.inl (by omega))
  obtain ⟨p1, p2, _⟩ := hP.mem p hm
  rw [hp] at p1 p2
  right
  by_cases hq : p.1 = p.2
  · rw [p1, p2] at hq
    have := (Prod.mk.inj hq).2
    omega
  · exact absurd ⟨by rw [p1]; simp only; omega, by rw [p2]; simp only; omega, hq⟩ (h p hm)
theorem not_agree_of_bad {a b : List (ByteArray × Int)} {P : List ((ByteArray × Int) × (ByteArray × Int))} (hP : PSpec a b P) {p : (ByteArray × Int) × (ByteArray × Int)} (hm : p ∈ P) (h : Bad p) : ¬ AgreeP a b := by
  rintro ⟨ha, hb, hall⟩
  obtain ⟨p1, p2, _⟩ := hP.mem p hm
  obtain ⟨h1, h2, h3⟩ := h
  rw [p1] at h1
  rw [p2] at h2
  simp only at h1 h2
  have hmem := getM_pos h1
  obtain ⟨i, hi, e⟩ := List.mem_iff_getElem.1 hmem
  have := hall i hi
  rw [e] at this
  simp only at this
  rcases this with h | h
  · omega
  · exact h3 (by rw [p1, p2, h])

theorem had_true (s : ByteArray) (v : Int) (w : World) (h : 0 < v) : Calls Try.prog 114 #[.agg #[.string s, .int .i64 v]] w fun e w' => e = .returned (.bool true) ∧ Below w.heap.size w w' :=
  (had_any s v w).mono fun e w' ⟨h1, h2⟩ => ⟨by rw [h1, decide_eq_true h], h2⟩
theorem had_false (s : ByteArray) (v : Int) (w : World) (h : ¬ 0 < v) : Calls Try.prog 114 #[.agg #[.string s, .int .i64 v]] w fun e w' => e = .returned (.bool false) ∧ Below w.heap.size w w' :=
  (had_any s v w).mono fun e w' ⟨h1, h2⟩ => ⟨by rw [h1, decide_eq_false h], h2⟩
theorem keepsFrom_below (B : Nat) {W W' : World} (h : Below W.heap.size W W') : KeepsFrom B W W' := ⟨h.size, fun k _ _ hk _ => (h.block k (Array.getElem?_eq_some_iff.1 hk).1).trans hk⟩

end Go.Proofs.Ytpfhegengmlkmac
