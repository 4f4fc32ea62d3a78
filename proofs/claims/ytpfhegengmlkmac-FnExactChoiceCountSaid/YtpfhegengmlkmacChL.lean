/- Mathematics: all choices that agree, in the order of their places; the greatest of them. -/
import Derived.Test.YtpfhegengmlkmacChM
namespace Go.Proofs.Ytpfhegengmlkmac

/-- All choices that begin so, with the places in m windows more. -/
def allL (ws : List (List ItemL)) : Nat → List Int → List (List Int)
  | 0, ps => [ps]
  | m + 1, ps => (List.range (ws.getD ps.length []).length).flatMap fun i : Nat => allL ws m (ps ++ [(i : Int)])

theorem pkM_pre {ws : List (List ItemL)} {ps qs : List Int} {i : Nat} (h : i < ps.length) : pkM ws (ps ++ qs) i = pkM ws ps i := by
  unfold pkM
  have e : (ps ++ qs).getD i 0 = ps.getD i 0 := by simp [List.getD, List.getElem?_append_left h]
  rw [e]

theorem AgW.pre {ws : List (List ItemL)} {ps qs : List Int} (h : AgW ws (ps ++ qs)) : AgW ws ps := fun i k hk hi => by
  have h1 := h i k hk (by simp; omega)
  rw [pkM_pre hi, pkM_pre (by omega)] at h1
  exact h1

theorem allL_pre {ws : List (List ItemL)} : ∀ (m : Nat) (ps q : List Int), q ∈ allL ws m ps → ∃ r, q = ps ++ r ∧ r.length = m
  | 0, ps, q, h => by
    obtain rfl : q = ps := by simpa [allL] using h
    exact ⟨[], by simp, rfl⟩
  | m + 1, ps, q, h => by
    simp only [allL, List.mem_flatMap, List.mem_range] at h
    obtain ⟨i, _, h⟩ := h
    obtain ⟨r, rfl, hr⟩ := allL_pre m _ _ h
    exact ⟨(i : Int) :: r, by simp, by simp [hr]⟩

open Classical in
/-- Those of them that agree. -/
noncomputable def foundL (ws : List (List ItemL)) (m : Nat) (ps : List Int) : List (List Int) := (allL ws m ps).filter fun q => decide (AgW ws q)

theorem foundL_no {ws : List (List ItemL)} {m : Nat} {ps : List Int} (h : ¬ AgW ws ps) : foundL ws m ps = [] := by
  classical
  unfold foundL
  rw [List.filter_eq_nil_iff]
  intro q hq
  obtain ⟨r, rfl, _⟩ := allL_pre m ps q hq
  simp only [decide_eq_true_eq]
  exact fun h2 => h h2.pre

theorem foundL_zero {ws : List (List ItemL)} {ps : List Int} (h : AgW ws ps) : foundL ws 0 ps = [ps] := by
  classical
  unfold foundL
  simp [allL, h]

/-- The first k of the next window's places. -/
noncomputable def foundK (ws : List (List ItemL)) (m : Nat) (ps : List Int) (k : Nat) : List (List Int) := (List.range k).flatMap fun i : Nat => foundL ws m (ps ++ [(i : Int)])
theorem foundK_zero (ws : List (List ItemL)) (m : Nat) (ps : List Int) : foundK ws m ps 0 = [] := rfl
theorem foundK_succ (ws : List (List ItemL)) (m : Nat) (ps : List Int) (k : Nat) : foundK ws m ps (k + 1) = foundK ws m ps k ++ foundL ws m (ps ++ [(k : Int)]) := by
  unfold foundK
  simp [List.range_succ, List.flatMap_append]
theorem foundL_succ (ws : List (List ItemL)) (m : Nat) (ps : List Int) : foundL ws (m + 1) ps = foundK ws m ps (ws.getD ps.length []).length := by
  classical
  unfold foundL foundK allL foundL
  rw [List.filter_flatMap]

theorem mem_allL {ws : List (List ItemL)} : ∀ (m : Nat) (ps q : List Int), ps.length + m ≤ ws.length → InW ws ps → (q ∈ allL ws m ps ↔ ∃ r, q = ps ++ r ∧ r.length = m ∧ InW ws q)
  | 0, ps, q, hm, hin => by
    constructor
    · intro h
      obtain rfl : q = ps := by simpa [allL] using h
      exact ⟨[], by simp, rfl, hin⟩
    · rintro ⟨r, rfl, hr, _⟩
      obtain rfl := List.length_eq_zero_iff.1 hr
      simp [allL]
  | m + 1, ps, q, hm, hin => by
    have hin2 : ∀ i : Nat, i < (ws.getD ps.length []).length → InW ws (ps ++ [(i : Int)]) := fun i hi => by
      refine ⟨by simp; omega, fun j hj => ?_⟩
      simp only [List.length_append, List.length_singleton] at hj
      by_cases e : j < ps.length
      · rw [List.getElem_append_left e]
        exact hin.2 j e
      · obtain rfl : j = ps.length := by omega
        simp only [List.getElem_concat_length]
        omega
    simp only [allL, List.mem_flatMap, List.mem_range]
    constructor
    · rintro ⟨i, hi, h⟩
      obtain ⟨r, rfl, hr, h3⟩ := (mem_allL m _ q (by simp; omega) (hin2 i hi)).1 h
      exact ⟨(i : Int) :: r, by simp, by simp [hr], h3⟩
    · rintro ⟨r, rfl, hr, h3⟩
      match r, hr with
      | x :: r, hr =>
        have hx := h3.2 ps.length (by simp)
        have e : (ps ++ x :: r)[ps.length]'(by simp) = x := by simp
        rw [e] at hx
        refine ⟨x.toNat, by omega, ?_⟩
        have ex : ((x.toNat : Nat) : Int) = x := by omega
        refine (mem_allL m _ _ (by simp; omega) (hin2 x.toNat (by omega))).2 ⟨r, by rw [ex]; simp, by simpa using hr, h3⟩

theorem chP_iff {ws : List (List ItemL)} {q : List Int} : ChP ws q ↔ OkW ws ∧ q ∈ foundL ws ws.length [] := by
  classical
  unfold foundL
  rw [List.mem_filter, mem_allL ws.length [] q (by simp) ⟨by simp, fun i hi => by simp at hi⟩]
  simp only [decide_eq_true_eq, List.nil_append]
  constructor
  · rintro ⟨h1, h2, h3, h4⟩
    exact ⟨h1, ⟨q, rfl, h2, h3⟩, h4⟩
  · rintro ⟨h1, ⟨r, rfl, h2, h3⟩, h4⟩
    exact ⟨h1, h2, h3, h4⟩

/-- Place by place the greatest of some choices. -/
def topL (b : List Int) (L : List (List Int)) : List Int := L.foldl (List.zipWith max) b

theorem topL_ch {ws : List (List ItemL)} : ∀ (L : List (List Int)) (b : List Int), ChP ws b → (∀ q ∈ L, ChP ws q) → ChP ws (topL b L) ∧ (∀ i, (hb : i < b.length) → (ht : i < (topL b L).length) → b[i] ≤ (topL b L)[i]) ∧ ∀ q ∈ L, ∀ i, (hq : i < q.length) → (ht : i < (topL b L).length) → q[i] ≤ (topL b L)[i]
  | [], b, hb, _ => ⟨hb, fun i h1 h2 => Int.le_refl _, fun q hq => by simp at hq⟩
  | p :: L, b, hb, hL => by
    have hp := hL p (by simp)
    obtain ⟨h1, h2, h3⟩ := topL_ch L (List.zipWith max b p) (chP_max hb hp) (fun q hq => hL q (by simp [hq]))
    have lb := hb.2.1
    have lp := hp.2.1
    have lt := h1.2.1
    have e : topL b (p :: L) = topL (List.zipWith max b p) L := rfl
    rw [e]
    refine ⟨h1, fun i hi ht => ?_, fun q hq i hi ht => ?_⟩
    · have h4 := h2 i (by simp; omega) ht
      rw [List.getElem_zipWith] at h4
      omega
    · rcases List.mem_cons.1 hq with rfl | hq
      · have h4 := h2 i (by simp; omega) ht
        rw [List.getElem_zipWith] at h4
        omega
      · exact h3 q hq i hi ht

theorem topL_best {ws : List (List ItemL)} (hok : OkW ws) {b : List Int} {L : List (List Int)} (h : foundL ws ws.length [] = b :: L) : BestP ws (topL b (b :: L)) true := by
  have hall : ∀ q ∈ b :: L, ChP ws q := fun q hq => chP_iff.2 ⟨hok, by rw [h]; exact hq⟩
  obtain ⟨h1, _, h3⟩ := topL_ch (b :: L) b (hall b (by simp)) hall
  refine .inl ⟨rfl, h1, fun q hq i hi ho => ?_⟩
  have hm := (chP_iff.1 hq).2
  rw [h] at hm
  exact h3 q hm i hi ho

theorem none_best {ws : List (List ItemL)} (h : ¬ OkW ws ∨ foundL ws ws.length [] = []) : BestP ws [] false := by
  refine .inr ⟨rfl, rfl, fun q hq => ?_⟩
  obtain ⟨h1, h2⟩ := chP_iff.1 hq
  rcases h with h | h
  · exact h h1
  · rw [h] at h2
    simp at h2

end Go.Proofs.Ytpfhegengmlkmac
