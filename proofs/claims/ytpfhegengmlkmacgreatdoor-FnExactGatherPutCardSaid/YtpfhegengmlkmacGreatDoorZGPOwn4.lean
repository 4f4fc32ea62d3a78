/- Texts of this claim, one behind the other. -/
import Derived.Test.YtpfhegengmlkmacGreatDoorLawM
import Derived.Test.YtpfhegengmlkmacGreatDoorItG
import Derived.Test.YtpfhegengmlkmacGreatDoorLat
import Derived.WalkKit
import Derived.LaidEql
import Derived.Stop.Asserts
import Derived.RowKitTokens
import Derived.Test.YtpfhegengmlkmacGreatDoorZGPOwn3
/- Mathematics: the join of a choice, stamp by stamp. -/
namespace Go.Proofs.YtpfhegengmlkmacGreatDoor

theorem isJ_stamp {a b m : List (ByteArray × Int)} {ok : Bool} (h : IsJ a b m ok) : StampP m := by
  cases ok
  · rw [h.none]; exact stampP_nil
  · exact h.fits.2.2.2

/-- The join of the stamps of the first k of a choice. -/
def JoinsTo (ws : List (List ItemL)) (ps : List Int) : Nat → List (ByteArray × Int) → Prop
  | 0, m => m = []
  | k + 1, m => ∃ q, JoinsTo ws ps k q ∧ IsJ q (pkM ws ps k) m true
theorem JoinsTo.one {ws : List (List ItemL)} {ps : List Int} : ∀ {k : Nat} {a b : List (ByteArray × Int)}, JoinsTo ws ps k a → JoinsTo ws ps k b → a = b
  | 0, a, b, h1, h2 => by rw [show a = [] from h1, show b = [] from h2]
  | k + 1, a, b, ⟨q, h1, h2⟩, ⟨q', h3, h4⟩ => by
    obtain rfl := h1.one h3
    exact (h2.one h4).1
theorem JoinsTo.pre {ws : List (List ItemL)} {ps : List Int} : ∀ {n : Nat} {m : List (ByteArray × Int)}, JoinsTo ws ps n m → ∀ k, k < n → ∃ q r, JoinsTo ws ps k q ∧ IsJ q (pkM ws ps k) r true
  | n + 1, m, ⟨q, h1, h2⟩, k, hk => by
    by_cases e : k = n
    · subst e; exact ⟨q, m, h1, h2⟩
    · exact h1.pre k (by omega)
theorem JoinsTo.stamp {ws : List (List ItemL)} {ps : List Int} : ∀ {k : Nat} {m : List (ByteArray × Int)}, JoinsTo ws ps k m → StampP m
  | 0, m, h => by rw [show m = [] from h]; exact stampP_nil
  | k + 1, m, ⟨q, _, h2⟩ => isJ_stamp h2
/-- Some stamp does not fit. -/
def JoinsNot (ws : List (List ItemL)) (ps : List Int) : Prop := ∃ k q m, k < ps.length ∧ JoinsTo ws ps k q ∧ IsJ q (pkM ws ps k) m false
/-- What the join of a choice is. -/
def IsCJ (ws : List (List ItemL)) (ps : List Int) (m : List (ByteArray × Int)) (ok : Bool) : Prop :=
  (ok = true ∧ ChP ws ps ∧ JoinsTo ws ps ps.length m) ∨ (ok = false ∧ m = [] ∧ (¬ ChP ws ps ∨ JoinsNot ws ps))
theorem joinsNot_not {ws : List (List ItemL)} {ps : List Int} {m : List (ByteArray × Int)} (h : JoinsNot ws ps) (hj : JoinsTo ws ps ps.length m) : False := by
  obtain ⟨k, q, r, hk, h1, h2⟩ := h
  obtain ⟨q', r', h3, h4⟩ := hj.pre k hk
  obtain rfl := h1.one h3
  have := (h2.one h4).2
  cases this
theorem IsCJ.one {ws : List (List ItemL)} {ps : List Int} {m m' : List (ByteArray × Int)} {ok ok' : Bool} (h : IsCJ ws ps m ok) (k : IsCJ ws ps m' ok') : m = m' ∧ ok = ok' := by
  rcases h with ⟨rfl, h1, h2⟩ | ⟨rfl, rfl, h2⟩
  · rcases k with ⟨rfl, k1, k2⟩ | ⟨rfl, rfl, k2⟩
    · exact ⟨h2.one k2, rfl⟩
    · rcases k2 with k2 | k2
      · exact absurd h1 k2
      · exact (joinsNot_not k2 h2).elim
  · rcases k with ⟨rfl, k1, k2⟩ | ⟨rfl, rfl, k2⟩
    · rcases h2 with h2 | h2
      · exact absurd k1 h2
      · exact (joinsNot_not h2 k2).elim
    · exact ⟨rfl, rfl⟩
theorem IsCJ.stamp {ws : List (List ItemL)} {ps : List Int} {m : List (ByteArray × Int)} {ok : Bool} (h : IsCJ ws ps m ok) : StampP m := by
  rcases h with ⟨rfl, _, h2⟩ | ⟨rfl, rfl, _⟩
  · exact h2.stamp
  · exact stampP_nil

end Go.Proofs.YtpfhegengmlkmacGreatDoor
/- Mathematics: all choices that agree, in the order of their places; the greatest of them. -/
namespace Go.Proofs.YtpfhegengmlkmacGreatDoor

/-- All choices that begin so, with the places in m windows more. -/
def allL (ws : List (List ItemL)) : Nat → List Int → List (List Int)
  | 0, ps => [ps]
  | m + 1, ps => (List.range (ws.getD ps.length []).length).flatMap fun i : Nat => allL ws m (ps ++ [(i : Int)])

theorem pkM_pre {ws : List (List ItemL)} {ps qs : List Int} {i : Nat} (h : i < ps.length) : pkM ws (ps ++ qs) i = pkM ws ps i := by
  unfold pkM
  have e : (ps ++ qs).getD i 0 = ps.getD i 0 := by simp [List.getD, List.getElem?_append_left h]
  rw [e]

theorem AgW.pre {ws : List (List ItemL)} {ps qs : List Int} (h : AgW ws (ps ++ qs)) : AgW ws ps := fun i k hk hi => by
  have h1 := h i k hk (by simp; omega)
  rw [pkM_pre hi, pkM_pre (by omega)] at h1
  exact h1

theorem allL_pre {ws : List (List ItemL)} : ∀ (m : Nat) (ps q : List Int), q ∈ allL ws m ps → ∃ r, q = ps ++ r ∧ r.length = m
  | 0, ps, q, h => by
    obtain rfl : q = ps := by simpa [allL] using h
    exact ⟨[], by simp, rfl⟩
  | m + 1, ps, q, h => by
    simp only [allL, List.mem_flatMap, List.mem_range] at h
    obtain ⟨i, _, h⟩ := h
    obtain ⟨r, rfl, hr⟩ := allL_pre m _ _ h
    exact ⟨(i : Int) :: r, by simp, by simp [hr]⟩

open Classical in
/-- Those of them that agree. -/
noncomputable def foundL (ws : List (List ItemL)) (m : Nat) (ps : List Int) : List (List Int) := (allL ws m ps).filter fun q => decide (AgW ws q)

theorem foundL_no {ws : List (List ItemL)} {m : Nat} {ps : List Int} (h : ¬ AgW ws ps) : foundL ws m ps = [] := by
  classical
  unfold foundL
  rw [List.filter_eq_nil_iff]
  intro q hq
  obtain ⟨r, rfl, _⟩ := allL_pre m ps q hq
  simp only [decide_eq_true_eq]
  exact fun h2 => h h2.pre

theorem foundL_zero {ws : List (List ItemL)} {ps : List Int} (h : AgW ws ps) : foundL ws 0 ps = [ps] := by
  classical
  unfold foundL
  simp [allL, h]

/-- The first k of the next window's places. -/
noncomputable def foundK (ws : List (List ItemL)) (m : Nat) (ps : List Int) (k : Nat) : List (List Int) := (List.range k).flatMap fun i : Nat => foundL ws m (ps ++ [(i : Int)])
theorem foundK_zero (ws : List (List ItemL)) (m : Nat) (ps : List Int) : foundK ws m ps 0 = [] := rfl
theorem foundK_succ (ws : List (List ItemL)) (m : Nat) (ps : List Int) (k : Nat) : foundK ws m ps (k + 1) = foundK ws m ps k ++ foundL ws m (ps ++ [(k : Int)]) := by
  unfold foundK
  simp [List.range_succ, List.flatMap_append]
theorem foundL_succ (ws : List (List ItemL)) (m : Nat) (ps : List Int) : foundL ws (m + 1) ps = foundK ws m ps (ws.getD ps.length []).length := by
  classical
  unfold foundL foundK allL foundL
  rw [List.filter_flatMap]

theorem mem_allL {ws : List (List ItemL)} : ∀ (m : Nat) (ps q : List Int), ps.length + m ≤ ws.length → InW ws ps → (q ∈ allL ws m ps ↔ ∃ r, q = ps ++ r ∧ r.length = m ∧ InW ws q)
  | 0, ps, q, hm, hin => by
    constructor
    · intro h
      obtain rfl : q = ps := by simpa [allL] using h
      exact ⟨[], by simp, rfl, hin⟩
    · rintro ⟨r, rfl, hr, _⟩
      obtain rfl := List.length_eq_zero_iff.1 hr
      simp [allL]
  | m + 1, ps, q, hm, hin => by
    have hin2 : ∀ i : Nat, i < (ws.getD ps.length []).length → InW ws (ps ++ [(i : Int)]) := fun i hi => by
      refine ⟨by simp; omega, fun j hj => ?_⟩
      simp only [List.length_append, List.length_singleton] at hj
      by_cases e : j < ps.length
      · rw [List.getElem_append_left e]
        exact hin.2 j e
      · obtain rfl : j = ps.length := by omega
        simp only [List.getElem_concat_length]
        omega
    simp only [allL, List.mem_flatMap, List.mem_range]
    constructor
    · rintro ⟨i, hi, h⟩
      obtain ⟨r, rfl, hr, h3⟩ := (mem_allL m _ q (by simp; omega) (hin2 i hi)).1 h
      exact ⟨(i : Int) :: r, by simp, by simp [hr], h3⟩
    · rintro ⟨r, rfl, hr, h3⟩
      match r, hr with
      | x :: r, hr =>
        have hx := h3.2 ps.length (by simp)
        have e : (ps ++ x :: r)[ps.length]'(by simp) = x := by simp
        rw [e] at hx
        refine ⟨x.toNat, by omega, ?_⟩
        have ex : ((x.toNat : Nat) : Int) = x := by omega
        refine (mem_allL m _ _ (by simp; omega) (hin2 x.toNat (by omega))).2 ⟨r, by rw [ex]; simp, by simpa using hr, h3⟩

theorem chP_iff {ws : List (List ItemL)} {q : List Int} : ChP ws q ↔ OkW ws ∧ q ∈ foundL ws ws.length [] := by
  classical
  unfold foundL
  rw [List.mem_filter, mem_allL ws.length [] q (by simp) ⟨by simp, fun i hi => by simp at hi⟩]
  simp only [decide_eq_true_eq, List.nil_append]
  constructor
  · rintro ⟨h1, h2, h3, h4⟩
    exact ⟨h1, ⟨q, rfl, h2, h3⟩, h4⟩
  · rintro ⟨h1, ⟨r, rfl, h2, h3⟩, h4⟩
    exact ⟨h1, h2, h3, h4⟩

/-- Place by place the greatest of some choices. -/
def topL (b : List Int) (L : List (List Int)) : List Int := L.foldl (List.zipWith max) b

theorem topL_ch {ws : List (List ItemL)} : ∀ (L : List (List Int)) (b : List Int), ChP ws b → (∀ q ∈ L, ChP ws q) → ChP ws (topL b L) ∧ (∀ i, (hb : i < b.length) → (ht : i < (topL b L).length) → b[i] ≤ (topL b L)[i]) ∧ ∀ q ∈ L, ∀ i, (hq : i < q.length) → (ht : i < (topL b L).length) → q[i] ≤ (topL b L)[i]
  | [], b, hb, _ => ⟨hb, fun i h1 h2 => Int.le_refl _, fun q hq => by simp at hq⟩
  | p :: L, b, hb, hL => by
    have hp := hL p (by simp)
    obtain ⟨h1, h2, h3⟩ := topL_ch L (List.zipWith max b p) (chP_max hb hp) (fun q hq => hL q (by simp [hq]))
    have lb := hb.2.1
    have lp := hp.2.1
    have lt := h1.2.1
    have e : topL b (p :: L) = topL (List.zipWith max b p) L := rfl
    rw [e]
    refine ⟨h1, fun i hi ht => ?_, fun q hq i hi ht => ?_⟩
    · have h4 := h2 i (by simp; omega) ht
      rw [List.getElem_zipWith] at h4
      omega
    · rcases List.mem_cons.1 hq with rfl | hq
      · have h4 := h2 i (by simp; omega) ht
        rw [List.getElem_zipWith] at h4
        omega
      · exact h3 q hq i hi ht

theorem topL_best {ws : List (List ItemL)} (hok : OkW ws) {b : List Int} {L : List (List Int)} (h : foundL ws ws.length [] = b :: L) : BestP ws (topL b (b :: L)) true := by
  have hall : ∀ q ∈ b :: L, ChP ws q := fun q hq => chP_iff.2 ⟨hok, by rw [h]; exact hq⟩
  obtain ⟨h1, _, h3⟩ := topL_ch (b :: L) b (hall b (by simp)) hall
  refine .inl ⟨rfl, h1, fun q hq i hi ho => ?_⟩
  have hm := (chP_iff.1 hq).2
  rw [h] at hm
  exact h3 q hm i hi ho

theorem none_best {ws : List (List ItemL)} (h : ¬ OkW ws ∨ foundL ws ws.length [] = []) : BestP ws [] false := by
  refine .inr ⟨rfl, rfl, fun q hq => ?_⟩
  obtain ⟨h1, h2⟩ := chP_iff.1 hq
  rcases h with h | h
  · exact h h1
  · rw [h] at h2
    simp at h2

end Go.Proofs.YtpfhegengmlkmacGreatDoor
/- Walks: l3All. -/
namespace Go.Proofs.YtpfhegengmlkmacGreatDoor
open Go.RowKit Go.BigFrame
set_option maxRecDepth 100000

theorem Tryz.infoZ1 : (Tryz.prog.info? 3).map (fun i => (i.zero, i.size, i.bytes)) = some (some (.int .i64 0), 1, 8) := by kernel_rfl
theorem Tryz.infoZ2 : (Tryz.prog.info? 37).map (fun i => (i.zero, i.size, i.bytes)) = some (some (.slice none 0 0), 1, 24) := by kernel_rfl

theorem allL_len {ws : List (List ItemL)} (h4 : ∀ k, (h : k < ws.length) → ws[k].length ≤ 4) : ∀ (m : Nat) (ps : List Int), (allL ws m ps).length ≤ 4 ^ m
  | 0, ps => by simp [allL]
  | m + 1, ps => by
    simp only [allL, List.length_flatMap]
    have hn : (ws.getD ps.length []).length ≤ 4 := by
      by_cases h : ps.length < ws.length
      · rw [getD_at h]; exact h4 _ h
      · simp [List.getD, List.getElem?_eq_none (by omega : ws.length ≤ ps.length)]
    have hs : ∀ n : Nat, ((List.range n).map fun i : Nat => (allL ws m (ps ++ [(i : Int)])).length).sum ≤ n * 4 ^ m := fun n => by
      induction n with
      | zero => simp
      | succ n ih =>
        rw [List.range_succ, List.map_append, List.sum_append]
        have := allL_len h4 m (ps ++ [(n : Int)])
        simp only [List.map_cons, List.map_nil, List.sum_cons, List.sum_nil]
        rw [Nat.succ_mul]
        omega
    have h1 := hs (ws.getD ps.length []).length
    have h2 : (ws.getD ps.length []).length * 4 ^ m ≤ 4 * 4 ^ m := Nat.mul_le_mul_right _ hn
    have h3 : 4 ^ (m + 1) = 4 * 4 ^ m := by rw [Nat.pow_succ]; omega
    omega
theorem foundL_len {ws : List (List ItemL)} (h4 : ∀ k, (h : k < ws.length) → ws[k].length ≤ 4) (m : Nat) (ps : List Int) : (foundL ws m ps).length ≤ 4 ^ m := by
  unfold foundL
  exact Nat.le_trans (List.length_filter_le _ _) (allL_len h4 m ps)
theorem foundK_len {ws : List (List ItemL)} (h4 : ∀ k, (h : k < ws.length) → ws[k].length ≤ 4) (m : Nat) (ps : List Int) (k : Nat) : (foundK ws m ps k).length ≤ k * 4 ^ m := by
  induction k with
  | zero => simp [foundK]
  | succ k ih =>
    rw [foundK_succ, List.length_append, Nat.succ_mul]
    have := foundL_len h4 m (ps ++ [(k : Int)])
    omega

theorem RowZ.grown {w w' : World} {a : Option Addr} {ps : List Int} {r : Option Nat} (h : RowZ w a ps) (hg : w.grownBy w' r) (hne : ∀ b o, a = some ⟨b, o, none⟩ → some b ≠ r) : RowZ w' a ps := fun k hk => by
  obtain ⟨b, o, e, h1, h2⟩ := h k hk
  exact ⟨b, o, e, Nat.lt_of_lt_of_le h1 hg.size, grown_cell hg (hne b o e) h2⟩
theorem GathN.rowz {w : World} {B g cap n : Nat} {l : List Int} (h : GathN w B (.slice (some ⟨g, 0, none⟩) n cap) l) (hn : n = l.length) (h0 : 0 < l.length) : RowZ w (some ⟨g, 0, none⟩) l := fun k hk => by
  subst hn
  obtain ⟨g', cap', e, _, h2, _, h3⟩ := h.shape h0
  obtain ⟨rfl, rfl⟩ : g = g' ∧ cap = cap' := by simpa using e
  exact ⟨g, 0, rfl, h2, by rw [Nat.zero_add]; exact h3 k hk⟩
theorem rowz_news {w : World} {b o : Nat} {l : List Int} (h : RowZ w (some ⟨b, o, none⟩) l) : ∀ j u, (l.map fun x => Value.int .i64 x)[j]? = some u → w.cell? ((⟨b, o, none⟩ : Addr).add j) = some u := by
  intro j u hj
  have hjl : j < l.length := by have := (List.getElem?_eq_some_iff.1 hj).1; simpa using this
  have e : (⟨b, o, none⟩ : Addr).add j = ⟨b, o + j, none⟩ := by unfold Addr.add; by_cases h : j = 0 <;> simp [h]
  obtain ⟨b', o', ha, _, c0⟩ := h j hjl
  obtain ⟨rfl, rfl⟩ : b = b' ∧ o = o' := by simpa using ha
  rw [e, c0]
  simpa [hjl] using hj

theorem in_snoc {ws : List (List ItemL)} {ps : List Int} (hin : InW ws ps) (hp : ps.length < ws.length) {i : Nat} (hi : i < ws[ps.length].length) : InW ws (ps ++ [(i : Int)]) := by
  refine ⟨by simp; omega, fun j hj => ?_⟩
  simp only [List.length_append, List.length_singleton] at hj
  by_cases e : j < ps.length
  · rw [List.getElem_append_left e]
    exact hin.2 j e
  · obtain rfl : j = ps.length := by omega
    rw [getD_at hp]
    simp only [List.getElem_concat_length]
    omega

/-- append of nil onto a literal of none. -/
theorem wpList_append_nil {P : Program} (w : World) {ops : Array Oper} {rest : List Oper} {o : Oper} {a : Act} {Q : Exit → Act → World → Prop} (hgd : o.guard = none) (s x : Operand) (t : TypeId)
    (ho : o.op = .call { callee := .builtin .append, args := #[s, x], argTypes := #[t, t] }) (e : TypeId) (i : TypeInfo) (ht : P.underlying t = some (.slice e)) (hi : P.info? e = some i) (va : Addr) (c : Nat) (hs : a.eval s = .slice (some va) 0 0) (hx : a.eval x = .slice none 0 c)
    (h : wpList P ops Q rest (a.put o.dst (.slice (some va) 0 0)) w) : wpList P ops Q (o :: rest) a w := by
  refine wpList_plain hgd fun K hK => ?_
  have hr : (Builtin.append_ #[t, t] o.type #[.slice (some va) 0 0, .slice none 0 c]).run P w = .ok (.slice (some va) 0 0) w := by
    simp [Builtin.append_, run_underlying ht, sizeOf, typeInfo, hi, Builtin.lenOf, Builtin.firstCells, storeCells]
  unfold Oper.wp execOp
  simp only [ho, resolve, invoke, builtin, Sem.run_bind, Sem.run_pure, Result.andThen_ok, List.map_toArray, List.map_cons, List.map_nil, hs, hx, hr]
  exact hK _ _ h

/-- append of all numbers of a slice onto a literal of none. -/
theorem wpList_append_nums {ops : Array Oper} {rest : List Oper} {o : Oper} {a : Act} {w : World} {Q : Exit → Act → World → Prop} (hgd : o.guard = none) (s x : Operand)
    (ho : o.op = .call { callee := .builtin .append, args := #[s, x], argTypes := #[37, 37] }) (base e0 cap : Nat) (a' : Option Addr) (l : List Int) (hs : a.eval s = .slice (some ⟨e0, 0, none⟩) 0 0) (he : w.heap[e0]? = some (.cells #[] 3 (0, 0))) (hb : base ≤ e0)
    (hx : a.eval x = .slice a' l.length cap) (hr : RowZ w a' l) (h0 : l = [] → a' = none) (hl : l.length ≤ 1048576)
    (h : ∀ g' cap' w', GathN w' base (.slice (some ⟨g', 0, none⟩) l.length cap') l → w.grownBy w' (some e0) → e0 ≤ g' → wpList Tryz.prog ops Q rest (a.put o.dst (.slice (some ⟨g', 0, none⟩) l.length cap')) w') : wpList Tryz.prog ops Q (o :: rest) a w := by
  obtain ⟨i0, hi, hz0, hz1, hz2⟩ := info_parts Tryz.infoZ1
  have hlt : e0 < w.heap.size := (Array.getElem?_eq_some_iff.1 he).1
  have hown : w.ownsRow base 3 1 (.slice (some ⟨e0, 0, none⟩) 0 0) 0 [] := ⟨rfl, .inr ⟨e0, 0, #[], rfl, hb, he, Nat.le_refl _, Nat.zero_le _, rfl, rfl⟩⟩
  by_cases hn : l = []
  · subst hn
    obtain rfl := h0 rfl
    exact wpList_append_nil w hgd s x 37 ho 3 i0 Tryz.underlying37 hi _ cap hs hx (h e0 0 w hown ⟨rfl, rfl, rfl, Nat.le_refl _, fun _ _ _ => rfl⟩ (Nat.le_refl _))
  · have hpos : 0 < l.length := List.length_pos_iff.2 hn
    obtain ⟨b, off, rfl, _⟩ := hr 0 hpos
    refine wpList_append_lies w hgd s x 37 ho base 3 i0 (.int .i64 0) 1 8 Tryz.underlying37 hi hz0 hz1 hz2 rfl (by decide) _ _ _ hs hown ⟨b, off, none⟩ l.length cap (l.map fun x => .int .i64 x) hx (by simp) (rowz_news hr) (by simp [Value.oneCell']) hpos (by unfold maxLen; omega) (by omega) (Nat.le_trans hb (Nat.le_of_lt hlt)) _ rfl ?_
    intro g' cap' w' h1 h2 h3 _
    simp only [Nat.zero_add, List.nil_append] at h1 ⊢
    exact h g' cap' w' h1 h2 (by
      rcases h3 with h3 | h3
      · simp [Value.ownBlock] at h3; omega
      · omega)

set_option maxHeartbeats 3200000 in
theorem l3All_any (W0 : World) (B : Nat) (a : Option Addr) (cap : Nat) (ws : List (List ItemL)) (hW0 : W0.heap.size ≤ B) (hf : FitW ws) (hr : RowW W0 a ws) (h6 : ws.length ≤ 6) (h4 : ∀ k, (h : k < ws.length) → ws[k].length ≤ 4) :
    ∀ (m : Nat) (a' : Option Addr) (cap' : Nat) (ps : List Int) (v : Value) (L : List (List Int × Nat × Nat)) (w : World), Below W0.heap.size W0 w → RowZ w a' ps → (ps = [] → a' = none) → (∀ b o, a' = some ⟨b, o, none⟩ → some b ≠ v.ownBlock) → InW ws ps → ps.length + m = ws.length → GathU w B v L → B ≤ w.heap.size → L.length + 4 ^ m ≤ 100000 →
    Calls Tryz.prog 83 #[.slice a ws.length cap, .slice a' ps.length cap', v] w fun e w' => (∃ v' L', e = .returned v' ∧ GathU w' B v' L' ∧ L'.map (·.1) = L.map (·.1) ++ foundL ws m ps ∧ (v'.ownBlock = v.ownBlock ∨ ∃ g, v'.ownBlock = some g ∧ w.heap.size ≤ g)) ∧ w.grownBy w' v.ownBlock := by
  intro m
  induction m with
  | zero =>
    intro a' cap' ps v L w hb hr' h0 hne hin hm hg hB hlen
    obtain ⟨i2, hi2, hy0, hy1, hy2⟩ := info_parts Tryz.infoZ2
    have hl := hf.1
    unfold maxLen at hl
    simp only [Nat.pow_zero] at hlen
    have hps : ps.length ≤ 6 := by omega
    have hpm : ps.length ≤ maxLen := by unfold maxLen; omega
    go_enter Tryz.func83, Tryz.ntmps83
    go_wp2_with fail
    refine (l3Agrees_any a cap ws a' cap' ps _ hf (hr.below hb) hpm hr' hin).mono ?_
    rintro e w1 ⟨⟨r, rfl, hr1⟩, b1⟩
    have HR : Hid (r = true ↔ AgW ws ps) := hr1
    clear hr1
    cases r
    · have HF : Hid (foundL ws 0 ps = []) := foundL_no (fun h => by simpa using HR.out.2 h)
      clear HR
      go_wp2_with fail
      go_ret
      exact ⟨⟨v, L, rfl, hg.keep b1, by rw [HF.out]; simp, .inl rfl⟩, grown_below b1 _⟩
    · have HF : Hid (foundL ws 0 ps = [ps]) := foundL_zero (HR.out.1 rfl)
      have heq : ((ps.length : Int) == (ws.length : Int)) = true := by rw [beq_iff_eq]; omega
      have hg1 := hg.keep b1
      have hr1 := hr'.below b1
      have z1 := b1.size
      clear HR hg hr'
      go_wp2_with (first
        | (at_builtin; refine wpList_append_nums rfl _ _ rfl B w1.heap.size cap' a' ps rfl (heap_alloc_new w1 _) (by omega) rfl (hr1.below ((Below.refl _ _).alloc (Nat.le_refl _) _)) h0 (by omega) ?_; intro g2 c2 w2 hn2 hgr2 hge2;
           have b2 : Below w1.heap.size w1 w2 := ((Below.refl _ _).alloc (Nat.le_refl _) _).grown hgr2 (by simp) (fun k e => by cases e; exact Nat.le_refl _);
           have hg2 := hg1.keep b2; have z2 := b2.size;
           have hbx : Below w2.heap.size w2 (w2.alloc (.cells #[.slice (some ⟨g2, 0, none⟩) ps.length c2] 37)) := (Below.refl _ _).alloc (Nat.le_refl _) _)
        | (at_builtin; refine wpList_append_own_at _ rfl _ _ 139 rfl B 37 i2 (.slice none 0 0) 1 24 Tryz.underlying139 hi2 hy0 hy1 hy2 rfl (by decide) _ _ _ rfl (own_keep hg2.1 hbx) ⟨w2.heap.size, 0, none⟩ 1 1 [.slice (some ⟨g2, 0, none⟩) ps.length c2] rfl rfl (cell_one_new _ _ _) (by simp [Value.oneCell']) (by unfold maxLen; omega) (by omega) (by simp; omega) ?_; intro v3 w3 hown3 hgr3 _ hloc3))
      go_ret
      have hall : Below w.heap.size w (w2.alloc (.cells #[.slice (some ⟨g2, 0, none⟩) ps.length c2] 37)) := (b1.trans (b2.mono z1)).alloc (by omega) _
      refine ⟨⟨v3, L ++ [(ps, g2, c2)], rfl, GathU.snoc (hg2.keep hbx) (own_keep hn2 hbx) (by decide) hown3 hgr3, by rw [HF.out]; simp, ?_⟩, grown_then (grown_below hall _) hgr3 (.inl rfl)⟩
      rcases hloc3 with e | e
      · exact .inl e
      · exact .inr ⟨_, e, by simp; omega⟩
  | succ m ih =>
    intro a' cap' ps v L w hb hr' h0 hne hin hm hg hB hlen
    obtain ⟨i1, hi1, hz0, hz1, hz2⟩ := info_parts Tryz.infoZ1
    have hl := hf.1
    unfold maxLen at hl
    have h41 : 4 ^ (m + 1) = 4 * 4 ^ m := by rw [Nat.pow_succ]; omega
    have hps : ps.length ≤ 6 := by omega
    have hpw : ps.length < ws.length := by omega
    have hpm : ps.length ≤ maxLen := by unfold maxLen; omega
    go_enter Tryz.func83, Tryz.ntmps83
    go_wp2_with fail
    refine (l3Agrees_any a cap ws a' cap' ps _ hf (hr.below hb) hpm hr' hin).mono ?_
    rintro e w1 ⟨⟨r, rfl, hr1⟩, b1⟩
    have HR : Hid (r = true ↔ AgW ws ps) := hr1
    clear hr1
    cases r
    · have HF : Hid (foundL ws (m + 1) ps = []) := foundL_no (fun h => by simpa using HR.out.2 h)
      clear HR
      go_wp2_with fail
      go_ret
      exact ⟨⟨v, L, rfl, hg.keep b1, by rw [HF.out]; simp, .inl rfl⟩, grown_below b1 _⟩
    · have HF : Hid (foundL ws (m + 1) ps = foundK ws m ps ws[ps.length].length) := by
        rw [foundL_succ, getD_at hpw]
        trivial
      have heq : ((ps.length : Int) == (ws.length : Int)) = false := by rw [beq_eq_false_iff_ne]; omega
      have hg1 := hg.keep b1
      have hr1 := hr'.below b1
      have z1 := b1.size
      have hz0' := hb.size
      have hb1 : Below W0.heap.size W0 w1 := hb.trans (b1.mono hz0')
      obtain ⟨bw, ow, rfl, gw, sw, tw, ew, _, _⟩ := hr ps.length hpw
      have ew1 := cell_on hb1 gw ew
      have k0 : (0 : Int) ≤ (ps.length : Int) := by omega
      have k1 : (ps.length : Int) < (ws.length : Int) := by omega
      have hw4 := h4 ps.length hpw
      have hvB := own_from hg.1
      clear HR hg hr'
      go_wp2_with fail
      go_loopw [2, 8] (fun u i wr => ∃ (k : Nat) (L' : List (List Int × Nat × Nat)), k ≤ ws[ps.length].length ∧ i = .int .i64 k ∧ GathU wr B u L' ∧ Hid (L'.map (·.1) = L.map (·.1) ++ foundK ws m ps k) ∧ (u.ownBlock = v.ownBlock ∨ ∃ g, u.ownBlock = some g ∧ w.heap.size ≤ g) ∧ w.grownBy wr v.ownBlock ∧ RowZ wr a' ps ∧ (∀ b o, a' = some ⟨b, o, none⟩ → some b ≠ u.ownBlock)) (fun _ i _ => ws[ps.length].length - (intOf i).toNat)
      case atStart => exact ⟨0, L, Nat.zero_le _, rfl, hg1, by unfold Hid; rw [foundK_zero]; simp, .inl rfl, grown_below b1 _, hr1, hne⟩
      case round =>
        obtain ⟨k, L', hk, rfl, hgU, HL, hloc, hgw, hrz, hnu⟩ := hrel
        clear hg1 hr1 ew1 b1 z1 hb1 hne
        by_cases hlt : k < ws[ps.length].length
        · have j0 : (0 : Int) ≤ (k : Int) := by omega
          have j1 : (k : Int) < (ws[ps.length].length : Int) := by omega
          have zr := hgw.size
          go_wp2_with (first
            | (at_builtin; refine wpList_append_nums rfl _ _ rfl B wr.heap.size cap' a' ps rfl (heap_alloc_new wr _) (by omega) rfl (hrz.below ((Below.refl _ _).alloc (Nat.le_refl _) _)) h0 (by omega) ?_; intro g2 c2 w2 hn2 hgr2 hge2;
               have b2 : Below wr.heap.size wr w2 := ((Below.refl _ _).alloc (Nat.le_refl _) _).grown hgr2 (by simp) (fun k e => by cases e; exact Nat.le_refl _);
               have z2 := b2.size;
               have hbx : Below w2.heap.size w2 (w2.alloc (.cells #[.int .i64 k] 3)) := (Below.refl _ _).alloc (Nat.le_refl _) _)
            | (at_builtin; refine wpList_append_lies _ rfl _ _ 37 rfl B 3 i1 (.int .i64 0) 1 8 Tryz.underlying37 hi1 hz0 hz1 hz2 rfl (by decide) _ _ _ rfl (own_keep hn2 hbx) ⟨w2.heap.size, 0, none⟩ 1 1 [.int .i64 k] rfl rfl (cell_one_new _ _ _) (by simp [Value.oneCell']) (by decide) (by unfold maxLen; omega) (by omega) (by simp; omega) _ rfl ?_; intro g3 c3 w3 hown3 hgr3 _ hlt3))
          have b3 : Below wr.heap.size wr w3 := (b2.alloc z2 _).grown hgr3 (by simp; omega) (fun k e => by have e2 : some g2 = some k := e; cases e2; omega)
          have z3 := b3.size
          have hn3 : GathN w3 B (.slice (some ⟨g3, 0, none⟩) (ps.length + 1) c3) (ps ++ [(k : Int)]) := by
            unfold GathN
            rw [List.length_append, List.map_append]
            exact hown3
          have hg3 := hgU.keep b3
          have hbr : Below W0.heap.size W0 wr := hb.grown hgw hz0' (fun k e => Nat.le_trans hW0 (hvB k e))
          have hne3 : ∀ b o, (some ⟨g3, 0, none⟩ : Option Addr) = some ⟨b, o, none⟩ → some b ≠ u2.ownBlock := fun b o e q => by
            obtain ⟨rfl, rfl⟩ : g3 = b ∧ 0 = o := by simpa using e
            rcases own_types hn3 hg3.1 (by decide) with h | h
            · simp [Value.ownBlock] at h
            · exact h (by simpa [Value.ownBlock] using q)
          have hLl : L'.length + 4 ^ m ≤ 100000 := by
            have h1 := congrArg List.length HL.out
            have h2 := foundK_len h4 m ps k
            have h3 : k * 4 ^ m ≤ 3 * 4 ^ m := Nat.mul_le_mul_right _ (by omega)
            simp only [List.length_map, List.length_append] at h1
            omega
          have hih := ih (some ⟨g3, 0, none⟩) c3 (ps ++ [(k : Int)]) u2 L' w3 (hbr.trans (b3.mono hbr.size)) (hn3.rowz (by simp) (by simp)) (fun h => by simp at h) hne3 (in_snoc hin hpw hlt) (by simp; omega) hg3 (by omega) hLl
          rw [List.length_append, List.length_singleton] at hih
          refine hih.mono ?_
          rintro e w4 ⟨⟨v4, L4, rfl, hg4, HL4, hloc4⟩, hgr4⟩
          have HLn : Hid (L4.map (·.1) = L.map (·.1) ++ foundK ws m ps (k + 1)) := by
            unfold Hid
            rw [HL4, HL.out, foundK_succ, List.append_assoc]
          have hgw4 : w.grownBy w4 v.ownBlock := grown_then (grown_then hgw (grown_below b3 _) (.inl rfl)) hgr4 hloc
          have hloc' : v4.ownBlock = v.ownBlock ∨ ∃ g, v4.ownBlock = some g ∧ w.heap.size ≤ g := by
            rcases hloc4 with e | ⟨g, e, hle⟩
            · rw [e]; exact hloc
            · exact .inr ⟨g, e, by omega⟩
          have hrz4 : RowZ w4 a' ps := (hrz.below b3).grown hgr4 hnu
          have hnu4 : ∀ b o, a' = some ⟨b, o, none⟩ → some b ≠ v4.ownBlock := fun b o e q => by
            by_cases hp0 : ps = []
            · have := h0 hp0
              rw [this] at e
              simp at e
            · obtain ⟨b', o', e', hl', _⟩ := hrz 0 (List.length_pos_iff.2 hp0)
              rw [e] at e'
              obtain ⟨rfl, rfl⟩ : b = b' ∧ o = o' := by simpa using e'
              rcases hloc4 with e4 | ⟨g, e4, hle⟩
              · exact hnu b o e (q.trans e4)
              · rw [e4] at q
                cases q
                omega
          clear hih HL HL4 hgr4 hg3 hn3 hown3 hgr3 hn2 hgr2 hgU
          go_wp2_with fail
          exact ⟨⟨k + 1, L4, by omega, by go_num, hg4, HLn, hloc', hgw4, hrz4, hnu4⟩, by simp [intOf]; omega⟩
        · have HL2 : Hid (L'.map (·.1) = L.map (·.1) ++ foundL ws (m + 1) ps) := by
            unfold Hid
            rw [HL.out, HF.out]
            congr 2
            omega
          go_wp2_with fail
          go_ret
          exact ⟨⟨_, rfl, L', hgU, HL2.out, hloc⟩, hgw⟩

end Go.Proofs.YtpfhegengmlkmacGreatDoor
/- Walk: spec.ChoiceBest. -/
namespace Go.Proofs.YtpfhegengmlkmacGreatDoor
open Go.RowKit Go.BigFrame
set_option maxRecDepth 100000

/-- The slice at address 'a' holds lists of numbers, each in a slice of its own. -/
def RowU (w : World) (a : Option Addr) (F : List (List Int)) : Prop := ∀ i, (h : i < F.length) → ∃ b o, a = some ⟨b, o, none⟩ ∧ b < w.heap.size ∧ ∃ s c, w.cell? ⟨b, o + i, none⟩ = some (.slice s F[i].length c) ∧ RowZ w s F[i]
theorem RowU.below {w w' : World} {a : Option Addr} {F : List (List Int)} (h : RowU w a F) (hb : Below w.heap.size w w') : RowU w' a F := fun i hi => by
  obtain ⟨b, o, e, h1, s, c, h2, h3⟩ := h i hi
  exact ⟨b, o, e, Nat.lt_of_lt_of_le h1 hb.size, s, c, cell_on hb h1 h2, h3.below hb⟩
theorem GathU.row {w : World} {B : Nat} {v : Value} {L : List (List Int × Nat × Nat)} (h : GathU w B v L) (h0 : ∀ p ∈ L, 0 < p.1.length) : ∃ a cap, v = .slice a L.length cap ∧ RowU w a (L.map (·.1)) := by
  rcases h.1.2 with ⟨rfl, e0⟩ | ⟨g, cap, cur, rfl, hB, hh, hn, _⟩
  · exact ⟨none, 0, by rw [e0], fun k hk => by rw [List.length_map] at hk; omega⟩
  · have hlt : g < w.heap.size := (Array.getElem?_eq_some_iff.1 hh).1
    refine ⟨_, cap, rfl, fun k hk => ⟨g, 0, rfl, hlt, ?_⟩⟩
    rw [List.length_map] at hk
    have hm := List.getElem_mem hk
    refine ⟨some ⟨L[k].2.1, 0, none⟩, L[k].2.2, ?_, by simpa using (h.2 L[k] hm).rowz rfl (h0 _ hm)⟩
    rw [Nat.zero_add, World.ownsRow.cellAt h.1 _ (by omega)]
    simp [hk]
/-- Block 'g' begins with the numbers 'l'. -/
def NumB (w : World) (g : Nat) (l : List Int) : Prop := ∃ m f, w.rowIs g 3 m f ∧ l.length ≤ m ∧ ∀ j, (h : j < l.length) → f j = .int .i64 l[j]
theorem NumB.cell {w : World} {g : Nat} {l : List Int} (h : NumB w g l) {j : Nat} (hj : j < l.length) : w.cell? ⟨g, j, none⟩ = some (.int .i64 l[j]) := by
  obtain ⟨m, f, h, hm, hf⟩ := h
  rw [h.cell (by omega), hf j hj]
theorem NumB.frozen {w : World} {g : Nat} {l : List Int} (h : NumB w g l) (j : Nat) : w.frozen? ⟨g, j, none⟩ = false := by
  obtain ⟨m, f, h, _⟩ := h
  exact h.frozen j
theorem NumB.lt {w : World} {g : Nat} {l : List Int} (h : NumB w g l) : g < w.heap.size := by
  obtain ⟨m, f, h, _⟩ := h
  exact h.lt
theorem NumB.set {w : World} {g : Nat} {l : List Int} (h : NumB w g l) (j : Nat) (x : Int) : NumB (w.setCell ⟨g, j, none⟩ (.int .i64 x)) g (l.set j x) := by
  obtain ⟨m, f, h, hm, hf⟩ := h
  refine ⟨m, _, h.set _ _, by rw [List.length_set]; exact hm, fun i hi => ?_⟩
  rw [List.length_set] at hi
  by_cases e : i = j
  · subst e; simp
  · simp only [if_neg e]
    rw [hf i hi, List.getElem_set_ne (fun h => e h.symm)]
theorem NumB.below {w w' : World} {g : Nat} {l : List Int} (h : NumB w g l) (hb : Below w.heap.size w w') : NumB w' g l := by
  have hlt := h.lt
  obtain ⟨m, f, h, hf⟩ := h
  exact ⟨m, f, h.of_block (hb.block g hlt), hf⟩
theorem NumB.row {w : World} {g : Nat} {l : List Int} (h : NumB w g l) : RowZ w (some ⟨g, 0, none⟩) l := fun k hk => ⟨g, 0, rfl, h.lt, by rw [Nat.zero_add]; exact h.cell hk⟩
theorem GathN.block {w : World} {B g n c : Nat} {l : List Int} (h : GathN w B (.slice (some ⟨g, 0, none⟩) n c) l) : B ≤ g ∧ NumB w g l := by
  rcases h.2 with ⟨e, _⟩ | ⟨g', cap, cur, e, hB, hh, hn, hc, hs, ht⟩
  · cases e
  · obtain rfl : g = g' := by simpa using (Value.slice.inj e).1
    refine ⟨hB, cap * 1, fun i => (cur[i]?).getD undef, ⟨cur, hh, hs, fun i hi => ?_⟩, by omega, fun k hk => ?_⟩
    · have hi' : i < cur.size := by omega
      simp [Array.getElem?_eq_getElem hi']
    · have h2 : (l.map fun x => Value.int .i64 x)[k]? = some (.int .i64 l[k]) := by simp [hk]
      rw [← ht, List.getElem?_take_of_lt (by simp; omega)] at h2
      simp only [Array.getElem?_toList] at h2
      simp only [h2]
      rfl

/-- The first k places have been held against q. -/
def MixP (cur q : List Int) (k : Nat) (l : List Int) : Prop := l.length = cur.length ∧ ∀ j, (h : j < l.length) → (hc : j < cur.length) → (hq : j < q.length) → l[j] = if j < k then max cur[j] q[j] else cur[j]
theorem mix_start (cur q : List Int) : MixP cur q 0 cur := ⟨rfl, fun j h hc hq => by simp⟩
theorem MixP.up {cur q l : List Int} {k : Nat} (h : MixP cur q k l) (hk : k < l.length) (hq : k < q.length) (hlt : l[k] < q[k]) : MixP cur q (k + 1) (l.set k q[k]) := by
  refine ⟨by rw [List.length_set]; exact h.1, fun j hj0 hc hq' => ?_⟩
  have hj : j < l.length := by simpa using hj0
  by_cases e : j = k
  · subst e
    have h2 := h.2 j hj hc hq'
    rw [if_neg (by omega)] at h2
    rw [List.getElem_set_self, if_pos (by omega)]
    omega
  · have h2 := h.2 j hj hc hq'
    rw [List.getElem_set_ne (fun h => e h.symm), h2]
    by_cases e2 : j < k
    · rw [if_pos e2, if_pos (by omega)]
    · rw [if_neg e2, if_neg (by omega)]
theorem MixP.same {cur q l : List Int} {k : Nat} (h : MixP cur q k l) (hk : k < l.length) (hq : k < q.length) (hlt : ¬ l[k] < q[k]) : MixP cur q (k + 1) l := by
  refine ⟨h.1, fun j hj hc hq' => ?_⟩
  have h2 := h.2 j hj hc hq'
  by_cases e : j = k
  · subst e
    rw [if_neg (by omega)] at h2
    rw [if_pos (by omega)]
    omega
  · rw [h2]
    by_cases e2 : j < k
    · rw [if_pos e2, if_pos (by omega)]
    · rw [if_neg e2, if_neg (by omega)]
theorem MixP.whole {cur q l : List Int} {k : Nat} (h : MixP cur q k l) (hq : q.length = cur.length) (hk : cur.length ≤ k) : l = List.zipWith max cur q := by
  apply List.ext_getElem
  · rw [h.1, List.length_zipWith, hq, Nat.min_self]
  · intro j h1 h2
    have hl := h.1
    rw [List.getElem_zipWith, h.2 j h1 (by omega) (by omega), if_pos (by omega)]
theorem topL_take {b : List Int} {F : List (List Int)} {i : Nat} (h : i < F.length) : topL b (F.take (i + 1)) = List.zipWith max (topL b (F.take i)) F[i] := by
  rw [List.take_succ_eq_append_getElem h]
  unfold topL
  rw [List.foldl_append]
  rfl

set_option maxHeartbeats 1600000 in
theorem specCB_any (a : Option Addr) (cap : Nat) (ws : List (List ItemL)) (w : World) (hf : FitW ws) (hr : RowW w a ws) :
    Calls Tryz.prog 44 #[.slice a ws.length cap] w fun e w' => ((∃ g c out, e = .returned (.tuple #[.slice (some ⟨g, 0, none⟩) out.length c, .bool true]) ∧ BestP ws out true ∧ w.heap.size ≤ g ∧ NumB w' g out) ∨ (e = .returned (.tuple #[.slice none 0 0, .bool false]) ∧ BestP ws [] false)) ∧ Below w.heap.size w w' := by
  go_enter Tryz.func44, Tryz.ntmps44
  go_wp2_with fail
  refine (l3Ok_any a cap ws _ hf hr).mono ?_
  rintro e w1 ⟨⟨r, rfl, hr1⟩, b1⟩
  have HR : Hid (r = true ↔ OkW ws) := hr1
  clear hr1
  cases r with
  | false =>
    have HN : Hid (BestP ws [] false) := none_best (.inl fun h => by have := HR.out.2 h; simp at this)
    go_wp2_with fail
    exact bodyPost_ret (v := .tuple #[.slice none 0 0, .bool false]) (by simp [results, Tryz.results44, go_sem]) rfl ⟨.inr ⟨rfl, HN.out⟩, b1⟩
  | true =>
    have HOK : Hid (OkW ws) := HR.out.1 rfl
    clear HR
    have h6 := HOK.out.2.1
    have h1l := HOK.out.1
    go_wp2_with fail
    have hpow : 4 ^ ws.length ≤ 4096 := Nat.le_trans (Nat.pow_le_pow_right (by omega) h6) (by decide)
    refine (l3All_any w w1.heap.size a cap ws b1.size hf hr h6 (fun k hk => (HOK.out.2.2 k hk).1) ws.length none 0 [] (.slice none 0 0) [] w1 b1 (fun k hk => absurd hk (Nat.not_lt_zero k)) (fun _ => rfl) (fun b o h => by cases h) ⟨by simp, fun i hi => by simp at hi⟩ (by simp) (gathU_none _ _) (Nat.le_refl _) (by simp; omega)).mono ?_
    rintro e w2 ⟨⟨v2, L, rfl, hg2, hL, _⟩, hgr⟩
    have hb2 : Below w1.heap.size w1 w2 := (Below.refl _ _).grown hgr (Nat.le_refl _) (fun k hk => by cases hk)
    have B2 : Below w.heap.size w w2 := b1.trans (hb2.mono b1.size)
    simp only [List.map_nil, List.nil_append] at hL
    have hlens : ∀ q ∈ foundL ws ws.length [], q.length = ws.length := fun q hq => (chP_iff.2 ⟨HOK.out, hq⟩).2.1
    have hcnt : (foundL ws ws.length []).length ≤ 4096 := Nat.le_trans (foundL_len (fun k hk => (HOK.out.2.2 k hk).1) ws.length []) hpow
    obtain ⟨va, vc, rfl, hru⟩ := hg2.row (fun p hp => by
      have := hlens p.1 (by rw [← hL]; exact List.mem_map.2 ⟨p, hp, rfl⟩)
      omega)
    rw [hL] at hru
    have hLl : L.length = (foundL ws ws.length []).length := by rw [← hL, List.length_map]
    rw [hLl]
    clear hg2 hgr hLl hL
    generalize hF : foundL ws ws.length [] = F at *
    have HF : Hid (foundL ws ws.length [] = F) := hF
    clear hF
    by_cases h0 : F.length = 0
    · have HN : Hid (BestP ws [] false) := none_best (.inr (by rw [HF.out]; exact List.length_eq_zero_iff.1 h0))
      have h0' : ((F.length : Int) == 0) = true := by rw [beq_iff_eq]; omega
      go_wp2_with fail
      exact bodyPost_ret (v := .tuple #[.slice none 0 0, .bool false]) (by simp [results, Tryz.results44, go_sem]) rfl ⟨.inr ⟨rfl, HN.out⟩, B2⟩
    have h0' : ((F.length : Int) == 0) = false := by rw [beq_eq_false_iff_ne]; omega
    obtain ⟨bu, ou, rfl, hbu, s0, c0, hu0, hz0⟩ := hru 0 (by omega)
    have i0 : (0 : Int) < (F.length : Int) := by omega
    have hl0 : F[0].length = ws.length := hlens _ (List.getElem_mem (by omega))
    have HL0 : Hid (F[0].length = ws.length) := hl0
    have hl6 : F[0].length ≤ 6 := by omega
    have hnn : F[0] = [] → s0 = none := fun h => by rw [h] at hl0; simp at hl0; omega
    have HLENS : Hid (∀ q ∈ F, q.length = ws.length) := hlens
    clear hl0 hlens
    rw [Nat.add_zero] at hu0
    have hbx : Below w2.heap.size w2 (w2.alloc (.cells #[] 3)) := (Below.refl _ _).alloc (Nat.le_refl _) _
    have hu0' := cell_on hbx hbu hu0
    have hz0' := hz0.below hbx
    go_wp2_with (first | (at_builtin; refine wpList_append_nums rfl _ _ rfl w2.heap.size w2.heap.size c0 s0 F[0] rfl (heap_alloc_new w2 _) (Nat.le_refl _) rfl hz0' hnn (by omega) ?_; intro g3 c3 w3 hn3 hgr3 hge3))
    obtain ⟨_, hnb⟩ := hn3.block
    have hb3 : Below w2.heap.size w2 w3 := hbx.grown hgr3 (by simp) (fun k hk => by cases hk; exact Nat.le_refl _)
    clear hn3 hgr3 hu0 hu0' hz0 hz0' hbx
    have B3 : Below w.heap.size w w3 := B2.trans (hb3.mono B2.size)
    go_loopw [6] (fun i wr => ∃ (k : Nat) (l : List Int), k ≤ F.length ∧ i = .int .i64 k ∧ l.length = F[0].length ∧ Hid (l = topL F[0] (F.take k)) ∧ NumB wr g3 l ∧ Below w2.heap.size w2 wr) (fun i _ => F.length - (intOf i).toNat)
    case atStart => exact ⟨0, F[0], Nat.zero_le _, rfl, rfl, rfl, hnb, hb3⟩
    case round =>
      clear hnb
      obtain ⟨k, l, hk, rfl, hll, HT, hnb, hbl⟩ := hrel
      by_cases hlt : k < F.length
      · have hqlen : F[k].length = F[0].length := by rw [HLENS.out _ (List.getElem_mem hlt), HL0.out]
        have HQL : Hid (F[k].length = F[0].length) := hqlen
        have hq6 : F[k].length ≤ 6 := by omega
        have HLL : Hid (l.length = F[0].length) := hll
        have k0 : (0 : Int) ≤ (k : Int) := by omega
        have k1 : (k : Int) < (F.length : Int) := by omega
        clear hqlen hll
        go_wp2_with fail
        go_loopw [7] (fun i2 wr2 => ∃ (j : Nat) (m : List Int), j ≤ F[0].length ∧ i2 = .int .i64 j ∧ Hid (MixP l F[k] j m) ∧ NumB wr2 g3 m ∧ Below w2.heap.size w2 wr2) (fun i2 _ => F[0].length - (intOf i2).toNat)
        case atStart => exact ⟨0, l, Nat.zero_le _, rfl, mix_start l F[k], hnb, hbl⟩
        case round =>
          clear hnb hbl
          obtain ⟨j, m, hj, rfl, HM, hnb, hbl⟩ := hrel
          by_cases hjlt : j < F[0].length
          · have hml : m.length = F[0].length := by rw [HM.out.1, HLL.out]
            have hjm : j < m.length := by omega
            have hjq : j < F[k].length := by rw [HQL.out]; omega
            obtain ⟨b5, o5, e5, hb5, s5, c5, f5, r5⟩ := hru.below hbl k hlt
            cases e5
            obtain ⟨b6, o6, rfl, hb6, f6⟩ := r5 j hjq
            have f7 := hnb.cell hjm
            have z7 := hnb.frozen j
            have j0 : (0 : Int) ≤ (j : Int) := by omega
            have j1 : (j : Int) < (F[0].length : Int) := by omega
            have j2 : (j : Int) < (F[k].length : Int) := by omega
            clear hml
            by_cases hgt : m[j] < F[k][j]
            · have HX : Hid (MixP l F[k] (j + 1) (m.set j F[k][j])) := HM.out.up hjm hjq hgt
              have hgt' : decide (m[j] < F[k][j]) = true := decide_eq_true hgt
              go_wp2_with fail
              go_quiet (fail)
              go_wp2_with fail
              have hset := (hnb.below (below_drewN (Below.refl _ _) nq)).set j F[k][j]
              exact ⟨⟨j + 1, _, by omega, by go_num, HX, hset, (below_drewN hbl _).setCell (by simp only; omega) _⟩, by simp [intOf]; omega⟩
            · have HX : Hid (MixP l F[k] (j + 1) m) := HM.out.same hjm hjq hgt
              have hgt' : decide (m[j] < F[k][j]) = false := decide_eq_false hgt
              go_wp2_with fail
              go_quiet (fail)
              go_wp2_with fail
              exact ⟨⟨j + 1, m, by omega, by go_num, HX, hnb.below (below_drewN (Below.refl _ _) _), below_drewN hbl _⟩, by simp [intOf]; omega⟩
          · have HX : Hid (m = topL F[0] (F.take (k + 1))) := by
              unfold Hid
              rw [topL_take hlt, ← HT.out]
              exact HM.out.whole (by rw [HQL.out, HLL.out]) (by rw [HLL.out]; omega)
            have hml : m.length = F[0].length := by rw [HM.out.1, HLL.out]
            go_wp2_with fail
            exact ⟨⟨k + 1, m, by omega, by go_num, hml, HX, hnb, hbl⟩, by simp [intOf]; omega⟩
      · have HB : Hid (BestP ws l true) := by
          unfold Hid
          rw [HT.out, List.take_of_length_le (by omega)]
          have e : foundL ws ws.length [] = F[0] :: F.tail := by rw [HF.out]; cases F with
            | nil => simp at h0
            | cons x y => rfl
          have h := topL_best HOK.out e
          rwa [← e, HF.out] at h
        go_wp2_with fail
        exact bodyPost_ret (v := .tuple #[.slice (some ⟨g3, 0, none⟩) l.length c3, .bool true]) (by simp [results, Tryz.results44, go_sem, hll]) rfl ⟨.inl ⟨g3, c3, l, rfl, HB.out, Nat.le_trans B2.size hge3, hnb⟩, B2.trans (hbl.mono B2.size)⟩

end Go.Proofs.YtpfhegengmlkmacGreatDoor
/- Mathematics: what an item that comes to a gather's input leads to. -/
namespace Go.Proofs.YtpfhegengmlkmacGreatDoor

/-- The value of the item that a choice has from window k. -/
def pkV (ws : List (List ItemL)) (ps : List Int) (k : Nat) : Int := ((ws.getD k []).getD (ps.getD k 0).toNat (0, [])).1
def valsM (ws : List (List ItemL)) (ps : List Int) : List Int := (List.range ps.length).map (pkV ws ps)
theorem valsM_len (ws : List (List ItemL)) (ps : List Int) : (valsM ws ps).length = ps.length := by simp [valsM]
def emptyG : GatL := ⟨[], [], []⟩
/-- The gather may be, and the input is one of its own. -/
def InG (g : GatL) (i : Int) : Prop := GatP g ∧ 0 ≤ i ∧ i < (g.ins.length : Int)
/-- What comes of the windows as they are. -/
def ComeP (ws : List (List ItemL)) (sh : List (ByteArray × Int)) (sh' : List (ByteArray × Int)) (sv : List Int) (ss : List (ByteArray × Int)) (code : Int) : Prop :=
  ∃ out ok, BestP ws out ok ∧ ((ok = false ∧ sh' = sh ∧ sv = [] ∧ ss = [] ∧ code = 0) ∨ (ok = true ∧ ∃ j okj, IsCJ ws out j okj ∧
    ((okj = false ∧ sh' = sh ∧ sv = [] ∧ ss = [] ∧ code = 4) ∨ (okj = true ∧ ∃ o, IsOrd sh j o ∧
      ((o ≠ 1 ∧ sh' = sh ∧ sv = [] ∧ ss = [] ∧ code = 0) ∨ (o = 1 ∧ sh' = j ∧ sv = valsM ws out ∧ ss = j ∧ code = 1))))))
theorem ComeP.one {ws : List (List ItemL)} {sh s1 s2 t1 t2 : List (ByteArray × Int)} {v1 v2 : List Int} {c1 c2 : Int} (h : ComeP ws sh s1 v1 t1 c1) (k : ComeP ws sh s2 v2 t2 c2) : s1 = s2 ∧ v1 = v2 ∧ t1 = t2 ∧ c1 = c2 := by
  obtain ⟨o1, k1, b1, h⟩ := h
  obtain ⟨o2, k2, b2, k⟩ := k
  obtain ⟨rfl, rfl⟩ := b1.one b2
  rcases h with ⟨rfl, rfl, rfl, rfl, rfl⟩ | ⟨rfl, j1, x1, i1, h⟩
  · rcases k with ⟨_, rfl, rfl, rfl, rfl⟩ | ⟨e, _⟩
    · exact ⟨rfl, rfl, rfl, rfl⟩
    · cases e
  · rcases k with ⟨e, _⟩ | ⟨_, j2, x2, i2, k⟩
    · cases e
    · obtain ⟨rfl, rfl⟩ := i1.one i2
      rcases h with ⟨rfl, rfl, rfl, rfl, rfl⟩ | ⟨rfl, p1, q1, h⟩
      · rcases k with ⟨_, rfl, rfl, rfl, rfl⟩ | ⟨e, _⟩
        · exact ⟨rfl, rfl, rfl, rfl⟩
        · cases e
      · rcases k with ⟨e, _⟩ | ⟨_, p2, q2, k⟩
        · cases e
        · obtain rfl := q1.one q2
          rcases h with ⟨h1, rfl, rfl, rfl, rfl⟩ | ⟨h1, rfl, rfl, rfl, rfl⟩
          · rcases k with ⟨_, rfl, rfl, rfl, rfl⟩ | ⟨k1, _⟩
            · exact ⟨rfl, rfl, rfl, rfl⟩
            · exact absurd k1 h1
          · rcases k with ⟨k1, _⟩ | ⟨_, rfl, rfl, rfl, rfl⟩
            · exact absurd h1 k1
            · exact ⟨rfl, rfl, rfl, rfl⟩
/-- What the feed comes to. -/
def PutG (g : GatL) (i x : Int) (m : List (ByteArray × Int)) (g' : GatL) (sv : List Int) (ss : List (ByteArray × Int)) (code : Int) : Prop :=
  (¬ InG g i ∧ g' = emptyG ∧ sv = [] ∧ ss = [] ∧ code = 2) ∨ (InG g i ∧ ∃ r c, IsP (g.wins.getD i.toNat []) x m r c ∧
    ((c = 1 ∧ g' = emptyG ∧ sv = [] ∧ ss = [] ∧ code = 2) ∨ (c = 2 ∧ g' = g ∧ sv = [] ∧ ss = [] ∧ code = 3) ∨
      (c = 0 ∧ ∃ sh, ComeP (g.wins.set i.toNat r) g.shown sh sv ss code ∧ g' = ⟨g.ins, g.wins.set i.toNat r, sh⟩)))
theorem PutG.one {g g1 g2 : GatL} {i x c1 c2 : Int} {m s1 s2 : List (ByteArray × Int)} {v1 v2 : List Int} (h : PutG g i x m g1 v1 s1 c1) (k : PutG g i x m g2 v2 s2 c2) : g1 = g2 ∧ v1 = v2 ∧ s1 = s2 ∧ c1 = c2 := by
  rcases h with ⟨h0, rfl, rfl, rfl, rfl⟩ | ⟨h0, r1, d1, p1, h⟩
  · rcases k with ⟨_, rfl, rfl, rfl, rfl⟩ | ⟨k0, _⟩
    · exact ⟨rfl, rfl, rfl, rfl⟩
    · exact absurd k0 h0
  · rcases k with ⟨k0, _⟩ | ⟨_, r2, d2, p2, k⟩
    · exact absurd h0 k0
    · obtain ⟨rfl, rfl⟩ := p1.one p2
      rcases h with ⟨rfl, rfl, rfl, rfl, rfl⟩ | ⟨rfl, rfl, rfl, rfl, rfl⟩ | ⟨rfl, sh1, q1, rfl⟩
      · rcases k with ⟨_, rfl, rfl, rfl, rfl⟩ | ⟨e, _⟩ | ⟨e, _⟩
        · exact ⟨rfl, rfl, rfl, rfl⟩
        · omega
        · omega
      · rcases k with ⟨e, _⟩ | ⟨_, rfl, rfl, rfl, rfl⟩ | ⟨e, _⟩
        · omega
        · exact ⟨rfl, rfl, rfl, rfl⟩
        · omega
      · rcases k with ⟨e, _⟩ | ⟨e, _⟩ | ⟨_, sh2, q2, rfl⟩
        · omega
        · omega
        · obtain ⟨rfl, rfl, rfl, rfl⟩ := q1.one q2
          exact ⟨rfl, rfl, rfl, rfl⟩

theorem getD_get {α : Type} (l : List α) (d : α) {k : Nat} (h : k < l.length) : l.getD k d = l[k] := by simp [List.getD, h]
theorem winP_stamps {l : List ItemL} (h : WinP l) : StampsP l := ⟨by have := h.1; omega, fun j hj => (h.2.1 j hj).1⟩
theorem set_stamps {ws : List (List ItemL)} {k : Nat} {r : List ItemL} (h : ∀ l ∈ ws, StampsP l) (hr : StampsP r) : ∀ l ∈ ws.set k r, StampsP l := fun l hl => by
  rcases List.mem_or_eq_of_mem_set hl with h1 | h1
  · exact h l h1
  · exact h1 ▸ hr
theorem stamps_fitW {ws : List (List ItemL)} (h6 : ws.length ≤ 6) (h : ∀ l ∈ ws, StampsP l) : FitW ws := ⟨by unfold maxLen; omega, fun j hj => (h _ (List.getElem_mem hj)).fit⟩
/-- What an answer is like: few names, few windows, stamps alone. -/
structure NiceG (g : GatL) : Prop where
  ins : g.ins.length ≤ 6
  names : ∀ j, (h : j < g.ins.length) → g.ins[j].size ≤ 8
  wins : g.wins.length ≤ 6
  items : ∀ l ∈ g.wins, StampsP l
  shown : StampP g.shown
theorem emptyG_nice : NiceG emptyG := ⟨by simp [emptyG], fun j hj => by simp [emptyG] at hj, by simp [emptyG], fun l hl => by simp [emptyG] at hl, stampP_nil⟩
theorem GatP.nice {g : GatL} (h : GatP g) : NiceG g := by
  refine ⟨h.ins.2.1, fun j hj => (h.ins.2.2 j hj).1.2.1, ?_, fun l hl => ?_, h.shown⟩
  · have := h.ins.2.1; have := h.len; omega
  · obtain ⟨j, hj, rfl⟩ := List.mem_iff_getElem.1 hl
    exact winP_stamps (h.wins.2.2 j hj)
theorem best_in {ws : List (List ItemL)} {out : List Int} (h : BestP ws out true) : ChP ws out := by
  rcases h with ⟨_, h, _⟩ | ⟨e, _⟩
  · exact h
  · cases e
theorem ComeP.nice {ws : List (List ItemL)} {sh s1 t1 : List (ByteArray × Int)} {v1 : List Int} {c1 : Int} (h : ComeP ws sh s1 v1 t1 c1) (hs : StampP sh) : StampP s1 ∧ v1.length ≤ 6 ∧ StampP t1 := by
  obtain ⟨o1, k1, b1, h⟩ := h
  rcases h with ⟨rfl, rfl, rfl, rfl, rfl⟩ | ⟨rfl, j1, x1, i1, h⟩
  · exact ⟨hs, by simp, stampP_nil⟩
  · have hc := best_in b1
    have hl : o1.length ≤ 6 := by have := hc.2.1; have := hc.1.2.1; omega
    rcases h with ⟨rfl, rfl, rfl, rfl, rfl⟩ | ⟨rfl, p1, q1, h⟩
    · exact ⟨hs, by simp, stampP_nil⟩
    · rcases h with ⟨h1, rfl, rfl, rfl, rfl⟩ | ⟨h1, rfl, rfl, rfl, rfl⟩
      · exact ⟨hs, by simp, stampP_nil⟩
      · exact ⟨i1.stamp, by rw [valsM_len]; exact hl, i1.stamp⟩
theorem PutG.nice {g g1 : GatL} {i x c1 : Int} {m s1 : List (ByteArray × Int)} {v1 : List Int} (h : PutG g i x m g1 v1 s1 c1) : NiceG g1 ∧ v1.length ≤ 6 ∧ StampP s1 := by
  rcases h with ⟨h0, rfl, rfl, rfl, rfl⟩ | ⟨h0, r1, d1, p1, h⟩
  · exact ⟨emptyG_nice, by simp, stampP_nil⟩
  · have hn := h0.1.nice
    rcases h with ⟨rfl, rfl, rfl, rfl, rfl⟩ | ⟨rfl, rfl, rfl, rfl, rfl⟩ | ⟨rfl, sh1, q1, rfl⟩
    · exact ⟨emptyG_nice, by simp, stampP_nil⟩
    · exact ⟨hn, by simp, stampP_nil⟩
    · have hc := q1.nice hn.shown
      exact ⟨⟨hn.ins, hn.names, by simpa using hn.wins, set_stamps hn.items (isP_stamps p1), hc.1⟩, hc.2⟩

end Go.Proofs.YtpfhegengmlkmacGreatDoor
/- errors.As at a refusal: by the library's own text, the entries of reflectlite by closed facts. -/
namespace Go.Proofs.YtpfhegengmlkmacGreatDoor
open Go.RowKit Go.Extern.Stop Go.Stop Go.Extern

theorem as_nil (t : Value) (w : World) :
    Calls Tryz.prog 52 #[.nilIface, t] w fun e w' => e = .returned (.bool false) ∧ w' = w := by
  go_enter Tryz.func52, Tryz.ntmps52
  go_wp2
  go_ret
  exact ⟨rfl, rfl⟩

theorem Tryz.valueOfP (t : Addr) (w : World) : (ReflectliteValue.unpack (.iface 98 (.pointer (some t)))).run Tryz.prog w
    = .ok (.agg #[.pointer (some ⟨11, 98, none⟩), .pointer (some ⟨w.heap.size, 0, none⟩), .int .u64 150]) (w.alloc (.cells #[.pointer (some t)] 98)) := by kernel_rfl
theorem Tryz.typeP (a : Addr) (w : World) : (ReflectliteValue.methodAny (ReflectliteValue.valueError "reflectlite.Value.Type" 0) (fun t _ _ _ => ReflectliteType.toType t) #[.agg #[.pointer (some ⟨11, 98, none⟩), .pointer (some a), .int .u64 150]]).run Tryz.prog w
    = .ok (.iface 197 (.agg #[.pointer (some ⟨11, 98, none⟩)])) w := by kernel_rfl
theorem Tryz.methodKind (h : Value) (w : World) : (Go.method 466 197 (.agg #[h]) "Kind").run Tryz.prog w = .ok (284, h) w := by kernel_rfl
theorem Tryz.kindP (w : World) : ((ReflectliteType.abiMethod fun t => (fun a : Nat => Value.int IntKind.u8 (a : Int)) <$> Rtype.kind t) #[.pointer (some ⟨11, 98, none⟩)]).run Tryz.prog w = .ok (.int .u8 22) w := by kernel_rfl
theorem Tryz.kindR (w : World) : ((ReflectliteType.abiMethod fun t => (fun a : Nat => Value.int IntKind.u8 (a : Int)) <$> Rtype.kind t) #[.pointer (some ⟨11, 96, none⟩)]).run Tryz.prog w = .ok (.int .u8 25) w := by kernel_rfl
theorem method_parts (z : Sem Value) (f : TypeId → Addr → Nat → Nat → Sem Value) (v : Value) : ∃ g, ReflectliteValue.method z f #[v] = (ReflectliteValue.parts v >>= g) ∧ ∀ t a fl, g (some (t, a, fl)) = f t a fl (fl % 32) := ⟨_, rfl, fun _ _ _ => rfl⟩
theorem Tryz.partsP (a : Addr) (w : World) : (ReflectliteValue.parts (.agg #[.pointer (some ⟨11, 98, none⟩), .pointer (some a), .int .u64 150])).run Tryz.prog w = .ok (some (98, a, 150)) w := by kernel_rfl
theorem Tryz.isNilP (a p : Addr) (W : World) (ha : W.cell? a = some (.pointer (some p))) :
    (ReflectliteValue.method (ReflectliteValue.valueError "reflectlite.Value.IsNil" 0) ReflectliteValue.isNil #[.agg #[.pointer (some ⟨11, 98, none⟩), .pointer (some a), .int .u64 150]]).run Tryz.prog W = .ok (.bool false) W := by
  obtain ⟨g, e1, e2⟩ := method_parts _ _ _
  rw [e1]
  simp only [Sem.run_bind, Tryz.partsP, Result.andThen, e2]
  simp [ReflectliteValue.isNil, loadVar, isAgg, underlying, Tryz.underlying98, ha, Result.andThen]
theorem Tryz.methodElem (h : Value) (w : World) : (Go.method 466 197 (.agg #[h]) "Elem").run Tryz.prog w = .ok (298, .agg #[h]) w := by kernel_rfl
theorem Tryz.methodImplements (h : Value) (w : World) : (Go.method 466 197 (.agg #[h]) "Implements").run Tryz.prog w = .ok (299, .agg #[h]) w := by kernel_rfl
theorem Tryz.methodAssignableTo (h : Value) (w : World) : (Go.method 466 197 (.agg #[h]) "AssignableTo").run Tryz.prog w = .ok (296, .agg #[h]) w := by kernel_rfl
theorem Tryz.elemP (w : World) : (ReflectliteType.method ReflectliteType.elem #[.agg #[.pointer (some ⟨11, 98, none⟩)]]).run Tryz.prog w = .ok (.iface 197 (.agg #[.pointer (some ⟨11, 96, none⟩)])) w := by kernel_rfl
theorem Tryz.implementsR (w : World) : (ReflectliteType.relation "Implements" ReflectliteType.implements_ #[.agg #[.pointer (some ⟨11, 96, none⟩)], .iface 197 (.agg #[.pointer (some ⟨11, 92, none⟩)])]).run Tryz.prog w = .ok (.bool true) w := by kernel_rfl
theorem Tryz.typeOfR (v : Value) (w : World) : (ReflectliteType.typeOf #[.iface 96 v]).run Tryz.prog w = .ok (.iface 197 (.agg #[.pointer (some ⟨11, 96, none⟩)])) w := by kernel_rfl
theorem Tryz.assignableR (w : World) : (ReflectliteType.relation "AssignableTo" ReflectliteType.assignableTo #[.agg #[.pointer (some ⟨11, 96, none⟩)], .iface 197 (.agg #[.pointer (some ⟨11, 96, none⟩)])]).run Tryz.prog w = .ok (.bool true) w := by kernel_rfl
theorem Tryz.valueOfR (c : Int) (w : World) : (ReflectliteValue.unpack (.iface 96 (.agg #[.int .i64 c]))).run Tryz.prog w
    = .ok (.agg #[.pointer (some ⟨11, 96, none⟩), .pointer (some ⟨w.heap.size, 0, none⟩), .int .u64 153]) (w.alloc (.cells #[.int .i64 c] 96)) := by kernel_rfl
theorem Tryz.elemOfP (w : World) : (Rtype.elem? 98).run Tryz.prog w = .ok (some 96) w := by kernel_rfl
theorem Tryz.mkR (p : Addr) (w : World) : (ReflectliteValue.mk 96 p ReflectliteValue.flagAddr).run Tryz.prog w = .ok (.agg #[.pointer (some ⟨11, 96, none⟩), .pointer (some p), .int .u64 409]) w := by kernel_rfl
theorem Tryz.elemVP (a p : Addr) (W : World) (ha : W.cell? a = some (.pointer (some p))) :
    (ReflectliteValue.method (ReflectliteValue.valueError "reflectlite.Value.Elem" 0) ReflectliteValue.elem #[.agg #[.pointer (some ⟨11, 98, none⟩), .pointer (some a), .int .u64 150]]).run Tryz.prog W
      = .ok (.agg #[.pointer (some ⟨11, 96, none⟩), .pointer (some p), .int .u64 409]) W := by
  obtain ⟨g, e1, e2⟩ := method_parts _ _ _
  rw [e1]
  simp only [Sem.run_bind, Tryz.partsP, Result.andThen, e2]
  simp [ReflectliteValue.elem, loadVar, isAgg, underlying, Tryz.underlying98, ha, Result.andThen, Tryz.elemOfP, Tryz.mkR]
theorem Tryz.partsRa (a : Addr) (w : World) : (ReflectliteValue.parts (.agg #[.pointer (some ⟨11, 96, none⟩), .pointer (some a), .int .u64 409])).run Tryz.prog w = .ok (some (96, a, 409)) w := by kernel_rfl
theorem Tryz.partsR (a : Addr) (w : World) : (ReflectliteValue.parts (.agg #[.pointer (some ⟨11, 96, none⟩), .pointer (some a), .int .u64 153])).run Tryz.prog w = .ok (some (96, a, 153)) w := by kernel_rfl
theorem Tryz.directR (w : World) : (Rtype.directlyAssignable 96 96).run Tryz.prog w = .ok true w := by kernel_rfl
theorem Tryz.setR0 (ta b : Addr) (W : World) : (ReflectliteValue.set #[.agg #[.pointer (some ⟨11, 96, none⟩), .pointer (some ta), .int .u64 409], .agg #[.pointer (some ⟨11, 96, none⟩), .pointer (some b), .int .u64 153]]).run Tryz.prog W
      = (do let v ← loadVar 96 b; storeVar 96 ta v; pure (Value.tuple #[])).run Tryz.prog W := by kernel_rfl
theorem Tryz.setR (ta b : Addr) (c : Int) (old : Value) (W : World) (hb : W.cell? b = some (.int .i64 c)) (ht : W.cell? ta = some old) (hf : W.frozen? ta = false) :
    (ReflectliteValue.set #[.agg #[.pointer (some ⟨11, 96, none⟩), .pointer (some ta), .int .u64 409], .agg #[.pointer (some ⟨11, 96, none⟩), .pointer (some b), .int .u64 153]]).run Tryz.prog W
      = .ok (.tuple #[]) (W.setCell ta (.int .i64 c)) := by
  rw [Tryz.setR0]
  simp [loadVar, storeVar, isAgg, underlying, Tryz.underlying96, loadCells, loadCellsFrom, hb, Result.andThen, Value.cells, storeCells, Addr.add]
  rw [run_store Tryz.prog W ta _ _ (by rfl)]
  simp [ht, hf]

/-- A refusal, asked for as such: it is handed over. -/
def AsTo (c : Int) (t : Addr) (w w' : World) : Prop := ∃ W, Below w.heap.size w W ∧ w' = W.setCell t (.int .i64 c)

set_option maxRecDepth 100000 in
set_option maxHeartbeats 4000000 in
theorem as_hit (c : Int) (t : Addr) (old : Value) (w : World) (hg : w.cell? ⟨0, 0, none⟩ = some (.iface 197 (.agg #[.pointer (some ⟨11, 92, none⟩)]))) (ht0 : w.cell? t = some old) (hf0 : w.frozen? t = false) :
    Calls Tryz.prog 52 #[.iface 96 (.agg #[.int .i64 c]), .iface 98 (.pointer (some t))] w fun ev w' => ev = .returned (.bool true) ∧ AsTo c t w w' := by
  have h1 := @run_callFunc_extern Tryz.prog 92 _ (fun args => ReflectliteValue.unpack (args.getD 0 (.tuple #[]))) Tryz.func92 (by kernel_rfl) (by kernel_rfl) (by kernel_rfl) (by kernel_rfl)
  have h2 := @run_callFunc_extern Tryz.prog 93 _ (ReflectliteValue.methodAny (ReflectliteValue.valueError "reflectlite.Value.Type" 0) (fun t _ _ _ => ReflectliteType.toType t)) Tryz.func93 (by kernel_rfl) (by kernel_rfl) (by kernel_rfl) (by kernel_rfl)
  have h3 := @run_callFunc_extern Tryz.prog 94 _ (ReflectliteValue.method (ReflectliteValue.valueError "reflectlite.Value.IsNil" 0) ReflectliteValue.isNil) Tryz.func94 (by kernel_rfl) (by kernel_rfl) (by kernel_rfl) (by kernel_rfl)
  have h4 := @run_callFunc_extern Tryz.prog 284 _ (ReflectliteType.abiMethod fun t => do pure (.int .u8 (← Rtype.kind t))) Tryz.func284 (by kernel_rfl) (by kernel_rfl) (by kernel_rfl) (by kernel_rfl)
  have h5 := @run_callFunc_extern Tryz.prog 298 _ (ReflectliteType.method ReflectliteType.elem) Tryz.func298 (by kernel_rfl) (by kernel_rfl) (by kernel_rfl) (by kernel_rfl)
  have h6 := @run_callFunc_extern Tryz.prog 299 _ (ReflectliteType.relation "Implements" ReflectliteType.implements_) Tryz.func299 (by kernel_rfl) (by kernel_rfl) (by kernel_rfl) (by kernel_rfl)
  have h7 := @run_callFunc_extern Tryz.prog 134 _ ReflectliteType.typeOf Tryz.func134 (by kernel_rfl) (by kernel_rfl) (by kernel_rfl) (by kernel_rfl)
  have h8 := @run_callFunc_extern Tryz.prog 296 _ (ReflectliteType.relation "AssignableTo" ReflectliteType.assignableTo) Tryz.func296 (by kernel_rfl) (by kernel_rfl) (by kernel_rfl) (by kernel_rfl)
  have h9 := @run_callFunc_extern Tryz.prog 135 _ (ReflectliteValue.method (ReflectliteValue.valueError "reflectlite.Value.Elem" 0) ReflectliteValue.elem) Tryz.func135 (by kernel_rfl) (by kernel_rfl) (by kernel_rfl) (by kernel_rfl)
  have h10 := @run_callFunc_extern Tryz.prog 136 _ ReflectliteValue.set Tryz.func136 (by kernel_rfl) (by kernel_rfl) (by kernel_rfl) (by kernel_rfl)
  have k1 := Tryz.typeOfR
  have k2 := Tryz.methodAssignableTo
  have k3 := Tryz.assignableR
  have k4 := Tryz.valueOfR
  have k5 := Tryz.valueOfP
  have k6 := Tryz.typeP
  have k7 := Tryz.methodKind
  have k8 := Tryz.methodElem
  have k9 := Tryz.methodImplements
  have k10 := Tryz.kindP
  have k11 := Tryz.kindR
  have k12 := Tryz.elemP
  have k13 := Tryz.implementsR
  have hlt : 0 < w.heap.size := block_lt_of_cell hg
  have htl : t.block < w.heap.size := by
    rcases Nat.lt_or_ge t.block w.heap.size with h | h
    · exact h
    · simp [World.cell?, Array.getElem?_eq_none h] at ht0
  obtain ⟨W1, hW1⟩ : ∃ W1, (w.alloc (.cells #[.pointer (some t)] 98)).alloc (.cells #[.pointer (some ⟨11, 98, none⟩), .pointer (some ⟨w.heap.size, 0, none⟩), .int .u64 150] 150) = W1 := ⟨_, rfl⟩
  have b1 : Below w.heap.size w W1 := by rw [← hW1]; exact ((Below.refl _ _).alloc (Nat.le_refl _) _).alloc (by simp) _
  have n1 := Tryz.isNilP ⟨w.heap.size, 0, none⟩ t W1 (by rw [← hW1]; simp)
  have hg1 : W1.cell? ⟨0, 0, none⟩ = some (.iface 197 (.agg #[.pointer (some ⟨11, 92, none⟩)])) := cell_on b1 hlt hg
  rw [← hW1] at n1 hg1 b1
  clear hW1 W1
  have b3 : Below w.heap.size w ((((w.alloc (.cells #[.pointer (some t)] 98)).alloc (.cells #[.pointer (some ⟨11, 98, none⟩), .pointer (some ⟨w.heap.size, 0, none⟩), .int .u64 150] 150)).alloc (.cells #[.pointer (some ⟨11, 98, none⟩), .pointer (some ⟨w.heap.size, 0, none⟩), .int .u64 150] 150)).alloc (.cells #[.int .i64 c] 96)) := (b1.alloc (by simp; omega) _).alloc (by simp; omega) _
  have n2 := Tryz.elemVP ⟨w.heap.size, 0, none⟩ t (((w.alloc (.cells #[.pointer (some t)] 98)).alloc (.cells #[.pointer (some ⟨11, 98, none⟩), .pointer (some ⟨w.heap.size, 0, none⟩), .int .u64 150] 150)).alloc (.cells #[.pointer (some ⟨11, 98, none⟩), .pointer (some ⟨w.heap.size, 0, none⟩), .int .u64 150] 150)) (by rw [World.cell?_alloc_lt _ _ ⟨w.heap.size, 0, none⟩ (by simp; omega)]; simp)
  have n3 := Tryz.setR t ⟨w.heap.size + 1 + 1 + 1, 0, none⟩ c old ((((w.alloc (.cells #[.pointer (some t)] 98)).alloc (.cells #[.pointer (some ⟨11, 98, none⟩), .pointer (some ⟨w.heap.size, 0, none⟩), .int .u64 150] 150)).alloc (.cells #[.pointer (some ⟨11, 98, none⟩), .pointer (some ⟨w.heap.size, 0, none⟩), .int .u64 150] 150)).alloc (.cells #[.int .i64 c] 96)) (by rw [World.cell?_alloc_at _ _ _ _ (by simp)]; rfl) ((b3.cell htl).trans ht0) ((b3.frozen htl).trans hf0)
  go_enter Tryz.func52, Tryz.ntmps52
  go_wp2
  refine wp_loop_rounds 1 ?_
  rw [rounds_succ]
  go_wp2
  go_ret
  exact ⟨rfl, _, b3, rfl⟩

end Go.Proofs.YtpfhegengmlkmacGreatDoor
/- Walk: taking of gathers. -/
namespace Go.Proofs.YtpfhegengmlkmacGreatDoor
open Go.RowKit Go.BigFrame
set_option maxRecDepth 100000

theorem GathY.blockY {w : World} {B : Nat} {v : Value} {L : List WinY} (h : GathY w B v L) (h0 : 0 < L.length) : ∃ t c, v = .slice (some ⟨t, 0, none⟩) L.length c ∧ L.length ≤ c ∧ B ≤ t ∧ t < w.heap.size ∧ (∀ k, (h : k < L.length) → w.cell? ⟨t, k, none⟩ = some L[k].v) ∧ (∀ k, w.frozen? ⟨t, k, none⟩ = false) ∧ ∀ p ∈ L, t < p.lo ∨ p.hi ≤ t := by
  rcases h.own.2 with ⟨_, e⟩ | ⟨g, cap, cur, rfl, hB, hh, hn, hc, hs, ht⟩
  · omega
  · have hlt : g < w.heap.size := (Array.getElem?_eq_some_iff.1 hh).1
    refine ⟨g, cap, rfl, hn, hB, hlt, fun k hk => ?_, fun k => ?_, fun p hp => h.far p hp g rfl⟩
    · have := World.ownsRow.cellAt h.own k (by omega)
      rw [this]
      simp [hk]
    · simp [World.frozen?, hh]
/-- What fresh answers lies whole. -/
theorem FreG.full {w w' : World} {g : GatL} {e : Ending} (h : FreG w w' g e) (h1 : 1 ≤ g.ins.length) (hlen : g.wins.length = g.ins.length) : ∃ b t c0 c1 gm cm L, e = .returned (.agg #[.slice (some ⟨b, 0, none⟩) g.ins.length c0, .slice (some ⟨t, 0, none⟩) L.length c1, .slice (some ⟨gm, 0, none⟩) g.shown.length cm]) ∧
    FullG w' w.heap.size w'.heap.size b t (some ⟨gm, 0, none⟩) g.ins L g.shown ∧ L.map (·.l) = g.wins ∧ (g.ins.length ≤ c0 ∧ c0 ≤ maxLen) ∧ L.length ≤ c1 ∧ g.shown.length ≤ cm ∧ (∀ k, w'.frozen? ⟨t, k, none⟩ = false) ∧ w.heap.size ≤ gm := by
  obtain ⟨B, v0, v1, L, gm, cm, hB, rfl, hg0, hg1, hLL, hfar, hgm, hgB, hcm, hom⟩ := h
  have hL : L.length = g.ins.length := by have := congrArg List.length hLL; simp only [List.length_map] at this; omega
  obtain ⟨b, c0, rfl, hbB, hsb⟩ := hg0.block (by omega)
  obtain ⟨t, c1, rfl, hc1, htB, htl, hcell, hfz, hft⟩ := hg1.blockY (by omega)
  have hne : b ≠ t := fun e => by
    have hx := own_types (show World.ownsRow _ _ _ _ _ _ _ from hg0) hg1.own str_unlike
    rcases hx with hx | hx
    · simp [Value.ownBlock] at hx
    · exact hx (by rw [e]; rfl)
  have hc0 : g.ins.length ≤ c0 ∧ c0 ≤ maxLen := by
    rcases hg0.2 with ⟨_, e⟩ | ⟨g', cap, cur, e, _, _, hn, hmx, _⟩
    · omega
    · simp only [Value.slice.injEq] at e
      omega
  have hlow : ∀ p ∈ L, gm < p.lo := fun p hp => by have := (hg1.at_ p hp).2.1; omega
  refine ⟨b, t, c0, c1, gm, cm, L, rfl, ⟨hsb, ⟨htl, hcell, fun p hp => (hg1.at_ p hp).1, hft, fun p hp => ?_, hg1.dis.imp fun h => .inl h⟩, hne, ⟨by omega, hsb.lt⟩, ⟨by omega, htl⟩, fun p hp => hfar p hp b rfl, .inr ⟨gm, rfl, hgm, hom.lt, by omega, by omega, hom, fun p hp => .inl (hlow p hp)⟩⟩, hLL, hc0, hc1, hcm, hfz, hgm⟩
  have := (hg1.at_ p hp).2
  omega
theorem FullG.widen {w : World} {lo hi lo' hi' b t : Nat} {a2 : Option Addr} {nm : List ByteArray} {L : List WinY} {m : List (ByteArray × Int)} (h : FullG w lo hi b t a2 nm L m) (h1 : lo' ≤ lo) (h2 : hi ≤ hi') : FullG w lo' hi' b t a2 nm L m :=
  ⟨h.names, ⟨h.wins.lt, h.wins.cell, h.wins.at_, h.wins.far, fun p hp => by have := h.wins.in_ p hp; omega, h.wins.dis⟩, h.bt, by have := h.bin; omega, by have := h.tin; omega, h.bfar, by
    rcases h.stamp with e | ⟨s, e, h3, h4, h5⟩
    · exact .inl e
    · exact .inr ⟨s, e, by omega, by omega, h5⟩⟩
/-- Another window at one place. -/
theorem FullG.setWin {w : World} {lo hi b t : Nat} {a2 : Option Addr} {nm : List ByteArray} {L : List WinY} {m : List (ByteArray × Int)} (h : FullG w lo hi b t a2 nm L m) {k : Nat} (hk : k < L.length) {q : WinY} (hq : ∃ a c, q.v = .slice a q.l.length c ∧ q.l.length ≤ c ∧ SafeI w q.lo q.hi a q.l) (hin : lo ≤ q.lo ∧ q.lo ≤ q.hi ∧ q.hi ≤ hi) (hqb : b < q.lo ∨ q.hi ≤ b) (hqt : t < q.lo ∨ q.hi ≤ t) (hqs : ∀ s, a2 = some ⟨s, 0, none⟩ → s < q.lo ∨ q.hi ≤ s) (hqL : ∀ p ∈ L, p.hi ≤ q.lo ∨ q.hi ≤ p.lo) :
    FullG (w.setCell ⟨t, k, none⟩ q.v) lo hi b t a2 nm (L.set k q) m := by
  have hbut : But t w (w.setCell ⟨t, k, none⟩ q.v) := (But.refl t w).setCell k q.v
  have hsp : Span t (t + 1) w (w.setCell ⟨t, k, none⟩ q.v) := hbut.span (Nat.le_refl _) (Nat.lt_succ_self _)
  have hmem : ∀ p ∈ L.set k q, p ∈ L ∨ p = q := fun p hp => List.mem_or_eq_of_mem_set hp
  refine ⟨h.names.span hsp (by have := h.bt; omega), ⟨by simpa using h.wins.lt, fun j hj => ?_, fun p hp => ?_, fun p hp => ?_, fun p hp => ?_, ?_⟩, h.bt, h.bin, h.tin, fun p hp => ?_, ?_⟩
  · have hj' : j < L.length := by simpa using hj
    rw [List.getElem_set]
    by_cases e : k = j
    · subst e
      rw [if_pos rfl]
      exact World.cell?_setCell_same' _ _ _ (by rw [h.wins.cell k hk]; rfl)
    · rw [if_neg e]
      have := h.wins.cell j hj'
      simp [go_sem, this]
  · rcases hmem p hp with h1 | rfl
    · obtain ⟨a, c, h2, h3, h4⟩ := h.wins.at_ p h1
      exact ⟨a, c, h2, h3, h4.span hsp (by have := h.wins.far p h1; omega)⟩
    · obtain ⟨a, c, h2, h3, h4⟩ := hq
      exact ⟨a, c, h2, h3, h4.span hsp (by omega)⟩
  · rcases hmem p hp with h1 | rfl
    · exact h.wins.far p h1
    · exact hqt
  · rcases hmem p hp with h1 | rfl
    · exact h.wins.in_ p h1
    · exact hin
  · rw [List.pairwise_iff_getElem]
    intro a c ha hc hac
    have ha' : a < L.length := by simpa using ha
    have hc' : c < L.length := by simpa using hc
    have hd := List.pairwise_iff_getElem.1 h.wins.dis a c ha' hc' hac
    rw [List.getElem_set, List.getElem_set]
    split
    · split
      · omega
      · exact (hqL _ (List.getElem_mem hc')).symm
    · split
      · exact hqL _ (List.getElem_mem ha')
      · exact hd
  · rcases hmem p hp with h1 | rfl
    · exact h.bfar p h1
    · exact hqb
  · rcases h.stamp with e | ⟨s, e, h1, h2, h3, h4, h5, h6⟩
    · exact .inl e
    · refine .inr ⟨s, e, h1, h2, h3, h4, hbut.own h5 h4, fun p hp => ?_⟩
      rcases hmem p hp with h1 | rfl
      · exact h6 p h1
      · exact hqs s e

theorem IsP.code {l : List ItemL} {x : Int} {m : List (ByteArray × Int)} {r : List ItemL} {c : Int} (h : IsP l x m r c) : c = 1 ∨ c = 2 ∨ c = 0 := by
  by_cases hw : WinP l ∧ StampP m ∧ m ≠ []
  · by_cases ht : TakeP l m
    · exact .inr (.inr (h.2.2 hw ht).2)
    · exact .inr (.inl (h.2.1 hw ht).2)
  · exact .inl (h.1 hw).2
/-- What taking answers. -/
def TakE (w w' : World) (g : GatL) (i x : Int) (m : List (ByteArray × Int)) (e : Ending) : Prop :=
  (e = .returned (.tuple #[.agg #[.slice none 0 0, .slice none 0 0, .slice none 0 0], .iface 96 (.agg #[.int .i64 2])]) ∧ (¬ InG g i ∨ (InG g i ∧ ∃ r, IsP (g.wins.getD i.toNat []) x m r 1))) ∨
  (InG g i ∧ ∃ r c b t c0 c1 gm cm L err, e = .returned (.tuple #[.agg #[.slice (some ⟨b, 0, none⟩) g.ins.length c0, .slice (some ⟨t, 0, none⟩) L.length c1, .slice (some ⟨gm, 0, none⟩) g.shown.length cm], err]) ∧ IsP (g.wins.getD i.toNat []) x m r c ∧
    FullG w' w.heap.size w'.heap.size b t (some ⟨gm, 0, none⟩) g.ins L g.shown ∧ (g.shown.length ≤ cm ∧ g.ins.length ≤ c0 ∧ c0 ≤ maxLen) ∧ ((c = 2 ∧ L.map (·.l) = g.wins ∧ err = .iface 96 (.agg #[.int .i64 3])) ∨ (c = 0 ∧ L.map (·.l) = g.wins.set i.toNat r ∧ err = .nilIface)))

set_option maxHeartbeats 4000000 in
theorem taking_any (a0 a1 a2 am : Option Addr) (c0 c1 c2 cm : Nat) (g : GatL) (i x : Int) (m : List (ByteArray × Int)) (w : World) (hf : FitG g) (hi : g.ins.length ≤ 1048576) (hc : g.ins.length ≤ c0) (hc2 : c0 ≤ maxLen) (r0 : RowS w a0 g.ins) (r1 : RowW w a1 g.wins) (r2 : Row w a2 g.shown) (hfm : FitM m) (hcm : m.length ≤ cm) (hrm : Row w am m) :
    Calls Tryz.prog 51 #[.agg #[.slice a0 g.ins.length c0, .slice a1 g.wins.length c1, .slice a2 g.shown.length c2], .agg #[.int .i64 i, .int .i64 x, .slice am m.length cm]] w fun e w' => TakE w w' g i x m e ∧ Below w.heap.size w w' := by
  have hb0 : Below w.heap.size w (((w.alloc (.cells #[.slice a0 g.ins.length c0, .slice a1 g.wins.length c1, .slice a2 g.shown.length c2] 36)).alloc (.cells #[.int .i64 i, .int .i64 x, .slice am m.length cm] 46)).alloc (.cells #[.slice none 0 0, .slice none 0 0, .slice none 0 0] 36)) := (((Below.refl _ _).alloc (Nat.le_refl _) _).alloc (by simp) _).alloc (by simp; omega) _
  have tP : Tri (((w.alloc (.cells #[.slice a0 g.ins.length c0, .slice a1 g.wins.length c1, .slice a2 g.shown.length c2] 36)).alloc (.cells #[.int .i64 i, .int .i64 x, .slice am m.length cm] 46)).alloc (.cells #[.slice none 0 0, .slice none 0 0, .slice none 0 0] 36)) w.heap.size (.slice a0 g.ins.length c0) (.slice a1 g.wins.length c1) (.slice a2 g.shown.length c2) := ((tri_new w _ _ _ _).keep ((Below.refl _ _).alloc (Nat.le_refl _) _)).keep ((Below.refl _ _).alloc (Nat.le_refl _) _)
  have tF : Tri (((w.alloc (.cells #[.slice a0 g.ins.length c0, .slice a1 g.wins.length c1, .slice a2 g.shown.length c2] 36)).alloc (.cells #[.int .i64 i, .int .i64 x, .slice am m.length cm] 46)).alloc (.cells #[.slice none 0 0, .slice none 0 0, .slice none 0 0] 36)) (w.heap.size + 1) (.int .i64 i) (.int .i64 x) (.slice am m.length cm) := by
    have h := tri_new (w.alloc (.cells #[.slice a0 g.ins.length c0, .slice a1 g.wins.length c1, .slice a2 g.shown.length c2] 36)) (.int .i64 i) (.int .i64 x) (.slice am m.length cm) 46
    rw [World.size_alloc] at h
    exact h.keep ((Below.refl _ _).alloc (Nat.le_refl _) _)
  have tR : Tri (((w.alloc (.cells #[.slice a0 g.ins.length c0, .slice a1 g.wins.length c1, .slice a2 g.shown.length c2] 36)).alloc (.cells #[.int .i64 i, .int .i64 x, .slice am m.length cm] 46)).alloc (.cells #[.slice none 0 0, .slice none 0 0, .slice none 0 0] 36)) (w.heap.size + 1 + 1) (.slice none 0 0) (.slice none 0 0) (.slice none 0 0) := by
    have h := tri_new ((w.alloc (.cells #[.slice a0 g.ins.length c0, .slice a1 g.wins.length c1, .slice a2 g.shown.length c2] 36)).alloc (.cells #[.int .i64 i, .int .i64 x, .slice am m.length cm] 46)) (.slice none 0 0) (.slice none 0 0) (.slice none 0 0) 36
    rw [World.size_alloc, World.size_alloc] at h
    exact h
  go_enter Tryz.func51, Tryz.ntmps51
  go_wp2_with fail
  generalize ((w.alloc (.cells #[.slice a0 g.ins.length c0, .slice a1 g.wins.length c1, .slice a2 g.shown.length c2] 36)).alloc (.cells #[.int .i64 i, .int .i64 x, .slice am m.length cm] 46)).alloc (.cells #[.slice none 0 0, .slice none 0 0, .slice none 0 0] 36) = W0 at *
  refine (implGOk_any a0 a1 a2 c0 c1 c2 g _ hf hi hc hc2 (r0.below hb0) (r1.below hb0) (r2.below hb0)).mono ?_
  rintro e w1 ⟨⟨r, rfl, hr1⟩, b1⟩
  have HR : Hid (r = true ↔ GatP g) := hr1
  clear hr1
  have B1 : Below w.heap.size w w1 := hb0.trans (b1.mono hb0.size)
  replace tP := tP.keep b1
  replace tF := tF.keep b1
  replace tR := tR.keep b1
  have z0 : w.heap.size + 2 < w1.heap.size := block_lt_of_cell tR.c0
  clear b1 hb0
  have HBAD : Hid (∀ X : World, Below w.heap.size w X → (¬ InG g i ∨ (InG g i ∧ ∃ r, IsP (g.wins.getD i.toNat []) x m r 1)) → TakE w (((X.setCell ⟨w.heap.size + 1 + 1, 0, none⟩ (.slice none 0 0)).setCell ⟨w.heap.size + 1 + 1, 1, none⟩ (.slice none 0 0)).setCell ⟨w.heap.size + 1 + 1, 2, none⟩ (.slice none 0 0)) g i x m (.returned (.tuple #[.agg #[.slice none 0 0, .slice none 0 0, .slice none 0 0], .iface 96 (.agg #[.int .i64 2])])) ∧ Below w.heap.size w (((X.setCell ⟨w.heap.size + 1 + 1, 0, none⟩ (.slice none 0 0)).setCell ⟨w.heap.size + 1 + 1, 1, none⟩ (.slice none 0 0)).setCell ⟨w.heap.size + 1 + 1, 2, none⟩ (.slice none 0 0))) :=
    fun X hX h => ⟨.inl ⟨rfl, h⟩, ((hX.setCell (by simp only; omega) _).setCell (by simp only; omega) _).setCell (by simp only; omega) _⟩
  by_cases hin : r = true ∧ 0 ≤ i ∧ i < (g.ins.length : Int)
  · obtain ⟨rfl, hi0, hi1⟩ := hin
    have HG : Hid (GatP g) := HR.out.1 rfl
    clear HR
    have HLEN : Hid (g.wins.length = g.ins.length) := HG.out.len
    have hiw : i < (g.wins.length : Int) := by have := HLEN.out; omega
    obtain ⟨k, rfl⟩ : ∃ k : Nat, i = (k : Int) := ⟨i.toNat, by omega⟩
    have hkw : k < g.wins.length := by omega
    have HIN : Hid (InG g (k : Int)) := ⟨HG.out, hi0, hi1⟩
    obtain ⟨bw, ow, rfl, hbw, s1, t1, q1, ht1, hri⟩ := r1.below B1 k hkw
    obtain ⟨p0, p1, p2, _, _, _⟩ := id tP
    obtain ⟨f0, f1, f2, _, _, _⟩ := id tF
    have k1 : (k : Int) < (g.wins.length : Int) := by omega
    go_wp2_with fail
    have hbd : Below w1.heap.size w1 w1.drew := (Below.refl _ _).drew
    have HS : Hid (∀ u : World, Below w1.heap.size w1 u → u.cell? ⟨w.heap.size, 1, none⟩ = some (.slice (some ⟨bw, ow, none⟩) g.wins.length c1) ∧ u.cell? ⟨w.heap.size + 1, 0, none⟩ = some (.int .i64 k) ∧ u.cell? ⟨w.heap.size + 1, 1, none⟩ = some (.int .i64 x) ∧ u.cell? ⟨w.heap.size + 1, 2, none⟩ = some (.slice am m.length cm) ∧ u.cell? ⟨bw, ow + k, none⟩ = some (.slice s1 g.wins[k].length t1)) := fun u hu => ⟨cell_on hu (by omega) p1, cell_on hu (by omega) f0, cell_on hu (by omega) f1, cell_on hu (by omega) f2, cell_on hu hbw q1⟩
    have SW := HS.out _ hbd
    refine wp_region_held_drew (S := fun u => u.cell? ⟨w.heap.size, 1, none⟩ = some (.slice (some ⟨bw, ow, none⟩) g.wins.length c1) ∧ u.cell? ⟨w.heap.size + 1, 0, none⟩ = some (.int .i64 k) ∧ u.cell? ⟨w.heap.size + 1, 1, none⟩ = some (.int .i64 x) ∧ u.cell? ⟨w.heap.size + 1, 2, none⟩ = some (.slice am m.length cm) ∧ u.cell? ⟨bw, ow + k, none⟩ = some (.slice s1 g.wins[k].length t1)) (by kernel_rfl) SW (fun _ => ?_)
    refine wpAnyH_take (i := 0) (v := .pointer (some ⟨w.heap.size, 1, none⟩)) rfl (by kernel_rfl) (by kernel_rfl) (by kernel_rfl) (fun _ _ _ h => h) (Or.inl ⟨by rfl, ?_⟩) SW ?_
    · rintro u ⟨x1, x2, x3, x4, x5⟩
      go_simp
    simp only [Act.put, List.setIfInBounds_toArray]
    refine wpAnyH_take (i := 1) (v := .slice (some ⟨bw, ow, none⟩) g.wins.length c1) rfl (by kernel_rfl) (by kernel_rfl) (by kernel_rfl) (fun _ _ _ h => h) (Or.inl ⟨by rfl, ?_⟩) SW ?_
    · rintro u ⟨x1, x2, x3, x4, x5⟩
      go_simp
    simp only [Act.put]
    refine wpAnyH_take (i := 2) (v := .pointer (some ⟨w.heap.size + 1, 0, none⟩)) rfl (by kernel_rfl) (by kernel_rfl) (by kernel_rfl) (fun _ _ _ h => h) (Or.inl ⟨by rfl, ?_⟩) SW ?_
    · rintro u ⟨x1, x2, x3, x4, x5⟩
      go_simp
    simp only [Act.put]
    refine wpAnyH_take (i := 3) (v := .int .i64 k) rfl (by kernel_rfl) (by kernel_rfl) (by kernel_rfl) (fun _ _ _ h => h) (Or.inl ⟨by rfl, ?_⟩) SW ?_
    · rintro u ⟨x1, x2, x3, x4, x5⟩
      go_simp
    simp only [Act.put]
    refine wpAnyH_take (i := 4) (v := .pointer (some ⟨bw, ow + k, none⟩)) rfl (by kernel_rfl) (by kernel_rfl) (by kernel_rfl) (fun _ _ _ h => h) (Or.inl ⟨by rfl, ?_⟩) SW ?_
    · rintro u ⟨x1, x2, x3, x4, x5⟩
      go_simp
    simp only [Act.put]
    refine wpAnyH_take (i := 5) (v := .slice s1 g.wins[k].length t1) rfl (by kernel_rfl) (by kernel_rfl) (by kernel_rfl) (fun _ _ _ h => h) (Or.inl ⟨by rfl, ?_⟩) SW ?_
    · rintro u ⟨x1, x2, x3, x4, x5⟩
      go_simp
    simp only [Act.put]
    refine wpAnyH_take (i := 6) (v := .pointer (some ⟨w.heap.size + 1, 1, none⟩)) rfl (by kernel_rfl) (by kernel_rfl) (by kernel_rfl) (fun _ _ _ h => h) (Or.inl ⟨by rfl, ?_⟩) SW ?_
    · rintro u ⟨x1, x2, x3, x4, x5⟩
      go_simp
    simp only [Act.put]
    refine wpAnyH_take (i := 7) (v := .agg #[.int .i64 x, .slice am m.length cm]) rfl (by kernel_rfl) (by kernel_rfl) (by kernel_rfl) (fun _ _ _ h => h) (Or.inl ⟨by rfl, ?_⟩) SW ?_
    · rintro u ⟨x1, x2, x3, x4, x5⟩
      go_simp
    simp only [Act.put]
    refine wpAnyH_ready (rs := [8]) (by kernel_rfl) (by simp) ?_
    refine AllReadyH.cons rfl (fun K hK => ?_) AllReadyH.nil
    rw [if_pos (by rfl)]
    go_simp
    refine (implPut_any s1 t1 g.wins[k] x am cm m _ (hf.wins.2 k hkw) (hri.below hbd) hfm hcm (hrm.below (B1.trans (hbd.mono B1.size)))).mono ?_
    rintro e w2 ⟨⟨v2, rr, cc, rfl, hP, hg2⟩, b2⟩
    obtain ⟨va, vc, rfl, hvc, hsv⟩ := hg2.safe
    have hb2 : Below w1.heap.size w1 w2 := hbd.trans (b2.mono hbd.size)
    have B2 : Below w.heap.size w w2 := B1.trans (hb2.mono B1.size)
    have HP : Hid (IsP (g.wins.getD ((k : Nat) : Int).toNat []) x m rr cc) := by unfold Hid; rw [Int.toNat_natCast, getD_get _ _ hkw]; exact hP
    clear hP
    have S2 := HS.out _ hb2
    refine hK.out _ _ S2 (fun _ => ?_)
    clear hK K SW
    refine wpAnyH_take (i := 9) (v := .tuple #[.slice va rr.length vc, .int .i64 cc]) rfl (by kernel_rfl) (by kernel_rfl) (by kernel_rfl) (fun _ _ _ h => h) (Or.inl ⟨by rfl, ?_⟩) S2 ?_
    · rintro u ⟨x1, x2, x3, x4, x5⟩
      go_simp
    simp only [Act.put, List.setIfInBounds_toArray]
    refine wpAnyH_take (i := 10) (v := .slice va rr.length vc) rfl (by kernel_rfl) (by kernel_rfl) (by kernel_rfl) (fun _ _ _ h => h) (Or.inl ⟨by rfl, ?_⟩) S2 ?_
    · rintro u ⟨x1, x2, x3, x4, x5⟩
      go_simp
    simp only [Act.put]
    refine wpAnyH_take (i := 11) (v := .int .i64 cc) rfl (by kernel_rfl) (by kernel_rfl) (by kernel_rfl) (fun _ _ _ h => h) (Or.inl ⟨by rfl, ?_⟩) S2 ?_
    · rintro u ⟨x1, x2, x3, x4, x5⟩
      go_simp
    simp only [Act.put]
    refine wpAnyH_ready (rs := [12]) (by kernel_rfl) (by simp) ?_
    refine AllReadyH.cons rfl (fun K hK => ?_) AllReadyH.nil
    rw [if_pos (by rfl)]
    go_simp
    refine hK.out _ _ S2 (fun _ => ?_)
    clear hK K
    refine wpAnyH_ready (rs := [13]) (by kernel_rfl) (by simp) ?_
    refine AllReadyH.cons rfl (fun K hK => ?_) AllReadyH.nil
    rw [if_pos (by rfl)]
    go_simp
    refine hK.out _ _ S2 (fun _ => ?_)
    clear hK K
    refine wpAnyH_done (by kernel_rfl) ?_ _
    clear S2
    have HI1 : Hid (InG g (k : Int)) := HIN.out
    replace tP := tP.keep hb2
    replace tF := tF.keep hb2
    replace tR := tR.keep hb2
    have z2 := hb2.size
    rcases HP.out.code with rfl | rfl | rfl
    · obtain ⟨d0, d1, d2, d3, d4, d5⟩ := id tR
      go_wp2_with fail
      exact bodyPost_ret (v := .tuple #[.agg #[.slice none 0 0, .slice none 0 0, .slice none 0 0], .iface 96 (.agg #[.int .i64 2])]) (by simp [results, Tryz.results51, go_sem, d0, d1, d2]) rfl (HBAD.out _ B2 (.inr ⟨HI1.out, _, HP.out⟩))
    · obtain ⟨p0, p1, p2, _, _, _⟩ := id tP
      obtain ⟨f0, f1, f2, _, _, _⟩ := id tF
      obtain ⟨d0, d1, d2, d3, d4, d5⟩ := id tR
      go_wp2_with fail
      refine (freshG_any a0 (some ⟨bw, ow, none⟩) a2 c0 c1 c2 g _ HG.out.ins.2.1 HLEN.out (r0.below B2) (r1.below B2) (r2.below B2) (fun j hj => (HG.out.ins.2.2 j hj).1.2.1) (fun j hj => HG.out.wins.2.2 j hj) HG.out.shown).mono ?_
      rintro e w3 ⟨hF, b3⟩
      obtain ⟨b, t, e0, e1, gm, em, L, rfl, hfull, hLL, hce0, hce1, hcem, hfz, hgmz⟩ := hF.full HG.out.ins.1 HLEN.out
      have HLL : Hid (L.map (·.l) = g.wins) := hLL
      have HLL2 : Hid (L.length = g.wins.length) := by have := congrArg List.length hLL; unfold Hid; simpa using this
      have B3 : Below w.heap.size w w3 := B2.trans (b3.mono B2.size)
      have bT : Below w3.heap.size w3 (w3.alloc (.cells #[.slice (some ⟨b, 0, none⟩) g.ins.length e0, .slice (some ⟨t, 0, none⟩) L.length e1, .slice (some ⟨gm, 0, none⟩) g.shown.length em] 36)) := (Below.refl _ _).alloc (Nat.le_refl _) _
      have tT := tri_new w3 (.slice (some ⟨b, 0, none⟩) g.ins.length e0) (.slice (some ⟨t, 0, none⟩) L.length e1) (.slice (some ⟨gm, 0, none⟩) g.shown.length em) 36
      have z3 := b3.size
      have hsv3 := (hsv.below b3).below bT
      have hfull3 := hfull.below bT
      have htl := hfull.wins.lt
      have htz := hfull.tin.1
      have hbz := hfull.bin.1
      replace tP := (tP.keep b3).keep bT
      replace tF := (tF.keep b3).keep bT
      replace tR := (tR.keep b3).keep bT
      have BT : Below w.heap.size w (w3.alloc (.cells #[.slice (some ⟨b, 0, none⟩) g.ins.length e0, .slice (some ⟨t, 0, none⟩) L.length e1, .slice (some ⟨gm, 0, none⟩) g.shown.length em] 36)) := B3.trans (bT.mono B3.size)
      clear p0 p1 p2 f0 f1 f2 d0 d1 d2 d3 d4 d5 hLL
      obtain ⟨p0, p1, p2, _, _, _⟩ := id tP
      obtain ⟨f0, f1, f2, _, _, _⟩ := id tF
      obtain ⟨d0, d1, d2, d3, d4, d5⟩ := id tR
      obtain ⟨g0, g1, g2, _, _, _⟩ := id tT
      have hfzT : ∀ j, (w3.alloc (.cells #[.slice (some ⟨b, 0, none⟩) g.ins.length e0, .slice (some ⟨t, 0, none⟩) L.length e1, .slice (some ⟨gm, 0, none⟩) g.shown.length em] 36)).frozen? ⟨t, j, none⟩ = false := fun j => (bT.frozen (p := ⟨t, j, none⟩) htl).trans (hfz j)
      have htT : (w3.alloc (.cells #[.slice (some ⟨b, 0, none⟩) g.ins.length e0, .slice (some ⟨t, 0, none⟩) L.length e1, .slice (some ⟨gm, 0, none⟩) g.shown.length em] 36)).heap.size = w3.heap.size + 1 := by simp
      go_wp2_with fail
      generalize w3.alloc (.cells #[.slice (some ⟨b, 0, none⟩) g.ins.length e0, .slice (some ⟨t, 0, none⟩) L.length e1, .slice (some ⟨gm, 0, none⟩) g.shown.length em] 36) = WT at *
      obtain ⟨W9, h9⟩ : ∃ W9, ((WT.setCell ⟨w.heap.size + 1 + 1, 0, none⟩ (.slice (some ⟨b, 0, none⟩) g.ins.length e0)).setCell ⟨w.heap.size + 1 + 1, 1, none⟩ (.slice (some ⟨t, 0, none⟩) L.length e1)).setCell ⟨w.heap.size + 1 + 1, 2, none⟩ (.slice (some ⟨gm, 0, none⟩) g.shown.length em) = W9 := ⟨_, rfl⟩
      have hsR : Span (w.heap.size + 2) (w.heap.size + 3) WT W9 := by rw [← h9]; exact (((Span.refl _ _ _).setCell (by omega) (by omega) _ _).setCell (by omega) (by omega) _ _).setCell (by omega) (by omega) _ _
      have z9 : W9.heap.size = w3.heap.size + 1 := by rw [← h9]; simpa using htT
      have c9 : W9.cell? ⟨w.heap.size + 1 + 1, 0, none⟩ = some (.slice (some ⟨b, 0, none⟩) g.ins.length e0) ∧ W9.cell? ⟨w.heap.size + 1 + 1, 1, none⟩ = some (.slice (some ⟨t, 0, none⟩) L.length e1) ∧ W9.cell? ⟨w.heap.size + 1 + 1, 2, none⟩ = some (.slice (some ⟨gm, 0, none⟩) g.shown.length em) := by rw [← h9]; refine ⟨?_, ?_, ?_⟩ <;> simp [go_sem, d0, d1, d2]
      have hB9 : Below w.heap.size w W9 := by rw [← h9]; exact ((BT.setCell (by simp only; omega) _).setCell (by simp only; omega) _).setCell (by simp only; omega) _
      have hfu9 := (hfull3.span hsR (.inr (by omega))).widen (show w.heap.size ≤ w2.heap.size by omega) (show w3.heap.size ≤ W9.heap.size by omega)
      rw [h9]
      clear h9
      obtain ⟨y0, y1, y2⟩ := c9
      exact bodyPost_ret (v := .tuple #[.agg #[.slice (some ⟨b, 0, none⟩) g.ins.length e0, .slice (some ⟨t, 0, none⟩) L.length e1, .slice (some ⟨gm, 0, none⟩) g.shown.length em], .iface 96 (.agg #[.int .i64 3])]) (by simp [results, Tryz.results51, go_sem, y0, y1, y2]) rfl ⟨.inr ⟨HI1.out, _, _, b, t, e0, e1, gm, em, L, _, rfl, HP.out, hfu9, ⟨hcem, hce0⟩, .inl ⟨rfl, HLL.out, rfl⟩⟩, hB9⟩
    · obtain ⟨p0, p1, p2, _, _, _⟩ := id tP
      obtain ⟨f0, f1, f2, _, _, _⟩ := id tF
      obtain ⟨d0, d1, d2, d3, d4, d5⟩ := id tR
      go_wp2_with fail
      refine (freshG_any a0 (some ⟨bw, ow, none⟩) a2 c0 c1 c2 g _ HG.out.ins.2.1 HLEN.out (r0.below B2) (r1.below B2) (r2.below B2) (fun j hj => (HG.out.ins.2.2 j hj).1.2.1) (fun j hj => HG.out.wins.2.2 j hj) HG.out.shown).mono ?_
      rintro e w3 ⟨hF, b3⟩
      obtain ⟨b, t, e0, e1, gm, em, L, rfl, hfull, hLL, hce0, hce1, hcem, hfz, hgmz⟩ := hF.full HG.out.ins.1 HLEN.out
      have HLL : Hid (L.map (·.l) = g.wins) := hLL
      have HLL2 : Hid (L.length = g.wins.length) := by have := congrArg List.length hLL; unfold Hid; simpa using this
      have B3 : Below w.heap.size w w3 := B2.trans (b3.mono B2.size)
      have bT : Below w3.heap.size w3 (w3.alloc (.cells #[.slice (some ⟨b, 0, none⟩) g.ins.length e0, .slice (some ⟨t, 0, none⟩) L.length e1, .slice (some ⟨gm, 0, none⟩) g.shown.length em] 36)) := (Below.refl _ _).alloc (Nat.le_refl _) _
      have tT := tri_new w3 (.slice (some ⟨b, 0, none⟩) g.ins.length e0) (.slice (some ⟨t, 0, none⟩) L.length e1) (.slice (some ⟨gm, 0, none⟩) g.shown.length em) 36
      have z3 := b3.size
      have hsv3 := (hsv.below b3).below bT
      have hfull3 := hfull.below bT
      have htl := hfull.wins.lt
      have htz := hfull.tin.1
      have hbz := hfull.bin.1
      have hkL : k < L.length := by rw [HLL2.out]; exact hkw
      have kL1 : (k : Int) < (L.length : Int) := by omega
      have q3 := hfull.wins.cell k hkL
      obtain ⟨pa, pc, pv, _, _⟩ := hfull.wins.at_ _ (List.getElem_mem hkL)
      have hsw := FullG.setWin (hfull.widen (show w.heap.size + 3 ≤ w2.heap.size by omega) (Nat.le_refl _)) hkL (q := WinY.mk rr (.slice va rr.length vc) w1.drew.heap.size w2.heap.size) ⟨va, vc, rfl, hvc, hsv.below b3⟩ ⟨show w.heap.size + 3 ≤ w1.drew.heap.size by have := hbd.size; omega, b2.size, z3⟩ (.inr hbz) (.inr htz) (fun s hs => .inr (show w2.heap.size ≤ s by have h1 : gm = s := congrArg Addr.block (Option.some.inj hs); omega)) (fun p hp => .inr (show w2.heap.size ≤ p.lo from (hfull.wins.in_ p hp).1))
      replace tP := (tP.keep b3).keep bT
      replace tF := (tF.keep b3).keep bT
      have tR3 := tR.keep b3
      have tRS := (tR3.far (q := t) (by omega) k (.slice va rr.length vc)).keep (show Below _ _ ((w3.setCell ⟨t, k, none⟩ (.slice va rr.length vc)).alloc (.cells #[.slice (some ⟨b, 0, none⟩) g.ins.length e0, .slice (some ⟨t, 0, none⟩) L.length e1, .slice (some ⟨gm, 0, none⟩) g.shown.length em] 36)) from (Below.refl _ _).alloc (Nat.le_refl _) _)
      clear p0 p1 p2 f0 f1 f2 d0 d1 d2 d3 d4 d5 hLL
      obtain ⟨p0, p1, p2, _, _, _⟩ := id tP
      obtain ⟨f0, f1, f2, _, _, _⟩ := id tF
      obtain ⟨d0, d1, d2, d3, d4, d5⟩ := id tRS
      have hfzT := hfz k
      rw [pv] at q3
      go_wp2_with fail
      have bS : Below (w3.setCell ⟨t, k, none⟩ (.slice va rr.length vc)).heap.size (w3.setCell ⟨t, k, none⟩ (.slice va rr.length vc)) ((w3.setCell ⟨t, k, none⟩ (.slice va rr.length vc)).alloc (.cells #[.slice (some ⟨b, 0, none⟩) g.ins.length e0, .slice (some ⟨t, 0, none⟩) L.length e1, .slice (some ⟨gm, 0, none⟩) g.shown.length em] 36)) := (Below.refl _ _).alloc (Nat.le_refl _) _
      have hfS := hsw.below bS
      have BS : Below w.heap.size w ((w3.setCell ⟨t, k, none⟩ (.slice va rr.length vc)).alloc (.cells #[.slice (some ⟨b, 0, none⟩) g.ins.length e0, .slice (some ⟨t, 0, none⟩) L.length e1, .slice (some ⟨gm, 0, none⟩) g.shown.length em] 36)) := (B3.setCell (p := ⟨t, k, none⟩) (by simp only; omega) _).alloc (by simp; omega) _
      have hzS : ((w3.setCell ⟨t, k, none⟩ (.slice va rr.length vc)).alloc (.cells #[.slice (some ⟨b, 0, none⟩) g.ins.length e0, .slice (some ⟨t, 0, none⟩) L.length e1, .slice (some ⟨gm, 0, none⟩) g.shown.length em] 36)).heap.size = w3.heap.size + 1 := by simp
      have hlS : (L.set k (WinY.mk rr (.slice va rr.length vc) w1.drew.heap.size w2.heap.size)).length = L.length := by simp
      have HLS : Hid ((L.set k (WinY.mk rr (.slice va rr.length vc) w1.drew.heap.size w2.heap.size)).map (·.l) = g.wins.set ((k : Nat) : Int).toNat rr) := by
        unfold Hid
        rw [List.map_set, HLL.out, Int.toNat_natCast]
      have hdlo : w.heap.size + 3 ≤ w1.drew.heap.size := by have := hbd.size; omega
      generalize L.set k (WinY.mk rr (.slice va rr.length vc) w1.drew.heap.size w2.heap.size) = L' at *
      generalize (w3.setCell ⟨t, k, none⟩ (.slice va rr.length vc)).alloc (.cells #[.slice (some ⟨b, 0, none⟩) g.ins.length e0, .slice (some ⟨t, 0, none⟩) L.length e1, .slice (some ⟨gm, 0, none⟩) g.shown.length em] 36) = WT at *
      obtain ⟨W9, h9⟩ : ∃ W9, ((WT.setCell ⟨w.heap.size + 1 + 1, 0, none⟩ (.slice (some ⟨b, 0, none⟩) g.ins.length e0)).setCell ⟨w.heap.size + 1 + 1, 1, none⟩ (.slice (some ⟨t, 0, none⟩) L.length e1)).setCell ⟨w.heap.size + 1 + 1, 2, none⟩ (.slice (some ⟨gm, 0, none⟩) g.shown.length em) = W9 := ⟨_, rfl⟩
      have hsR : Span (w.heap.size + 2) (w.heap.size + 3) WT W9 := by rw [← h9]; exact (((Span.refl _ _ _).setCell (by omega) (by omega) _ _).setCell (by omega) (by omega) _ _).setCell (by omega) (by omega) _ _
      have z9 : W9.heap.size = w3.heap.size + 1 := by rw [← h9]; simpa using hzS
      have c9 : W9.cell? ⟨w.heap.size + 1 + 1, 0, none⟩ = some (.slice (some ⟨b, 0, none⟩) g.ins.length e0) ∧ W9.cell? ⟨w.heap.size + 1 + 1, 1, none⟩ = some (.slice (some ⟨t, 0, none⟩) L.length e1) ∧ W9.cell? ⟨w.heap.size + 1 + 1, 2, none⟩ = some (.slice (some ⟨gm, 0, none⟩) g.shown.length em) := by rw [← h9]; refine ⟨?_, ?_, ?_⟩ <;> simp [go_sem, d0, d1, d2]
      have hB9 : Below w.heap.size w W9 := by rw [← h9]; exact ((BS.setCell (by simp only; omega) _).setCell (by simp only; omega) _).setCell (by simp only; omega) _
      have hfu9 := hfS.span hsR (.inr (Nat.le_refl _))
      rw [h9]
      clear h9
      obtain ⟨y0, y1, y2⟩ := c9
      exact bodyPost_ret (v := .tuple #[.agg #[.slice (some ⟨b, 0, none⟩) g.ins.length e0, .slice (some ⟨t, 0, none⟩) L.length e1, .slice (some ⟨gm, 0, none⟩) g.shown.length em], .nilIface]) (by simp [results, Tryz.results51, go_sem, y0, y1, y2]) rfl ⟨.inr ⟨HI1.out, _, _, b, t, e0, e1, gm, em, L', _, by rw [hlS], HP.out, hfu9.widen (by omega) (by omega), ⟨hcem, hce0⟩, .inr ⟨rfl, HLS.out, rfl⟩⟩, hB9⟩
  · have HNI : Hid (¬ InG g i) := fun h => hin ⟨HR.out.2 h.1, h.2⟩
    obtain ⟨p0, p1, p2, _, _, _⟩ := id tP
    obtain ⟨f0, f1, f2, _, _, _⟩ := id tF
    obtain ⟨d0, d1, d2, d3, d4, d5⟩ := id tR
    cases r with
    | false =>
      go_wp2_with fail
      exact bodyPost_ret (v := .tuple #[.agg #[.slice none 0 0, .slice none 0 0, .slice none 0 0], .iface 96 (.agg #[.int .i64 2])]) (by simp [results, Tryz.results51, go_sem, d0, d1, d2]) rfl (HBAD.out _ B1 (.inl HNI.out))
    | true =>
      by_cases hi0 : i < 0
      · go_wp2_with fail
        exact bodyPost_ret (v := .tuple #[.agg #[.slice none 0 0, .slice none 0 0, .slice none 0 0], .iface 96 (.agg #[.int .i64 2])]) (by simp [results, Tryz.results51, go_sem, d0, d1, d2]) rfl (HBAD.out _ B1 (.inl HNI.out))
      · have hi1 : ¬ i < (g.ins.length : Int) := fun h => hin ⟨rfl, by omega, h⟩
        go_wp2_with fail
        exact bodyPost_ret (v := .tuple #[.agg #[.slice none 0 0, .slice none 0 0, .slice none 0 0], .iface 96 (.agg #[.int .i64 2])]) (by simp [results, Tryz.results51, go_sem, d0, d1, d2]) rfl (HBAD.out _ B1 (.inl HNI.out))

end Go.Proofs.YtpfhegengmlkmacGreatDoor
/- Walk: l4Copy. -/
namespace Go.Proofs.YtpfhegengmlkmacGreatDoor
open Go.RowKit Go.BigFrame
set_option maxRecDepth 100000

theorem wp_append_all {o : Oper} {a : Act} {w : World} {K : Act → World → Prop} {Q : Exit → Act → World → Prop} (s x : Operand)
    (ho : o.op = .call { callee := .builtin .append, args := #[s, x], argTypes := #[22, 22] }) (base : Nat) (v : Value) (hs : a.eval s = v) (hg : w.ownsRow base 9 1 v 0 []) (hbase : base ≤ w.heap.size)
    (ad : Addr) (l : List ByteArray) (cap : Nat) (hx : a.eval x = .slice (some ad) l.length cap) (hn : ∀ j u, (l.map Value.string)[j]? = some u → w.cell? (ad.add j) = some u) (hl : l.length ≤ 1048576)
    (h : ∀ v' w', GathS w' base v' l → w.grownBy w' v.ownBlock → K (a.put o.dst v') w') : o.wp Tryz.prog a w K Q := by
  obtain ⟨i0, hi, hz0, hz1, hz2⟩ := info_parts Tryz.infoS
  obtain ⟨v', w', hr, h2, h3, _, h5⟩ := run_append_own_at (P := Tryz.prog) w base 22 o.type 9 i0 (.string .empty) 1 16 Tryz.underlying22 hi hz0 hz1 hz2 rfl (by decide) v 0 [] hg ad l.length cap (l.map Value.string) (by simp) hn (by simp [Value.oneCell']) (by unfold maxLen; omega) (by omega) hbase
  unfold Oper.wp execOp
  simp only [ho, resolve, invoke, builtin, Sem.run_bind, Sem.run_pure, Result.andThen_ok, List.map_toArray, List.map_cons, List.map_nil, hs, hx, hr]
  simp only [Nat.zero_add, List.nil_append] at h2
  exact h _ w' h2 h3
theorem Tri.set2c {w : World} {b : Nat} {x y z : Value} (h : Tri w b x y z) (v : Value) : Tri (w.setCell ⟨b, 2, none⟩ v) b x y v :=
  ⟨by simp [go_sem, h.c0], by simp [go_sem, h.c1], by simp [go_sem, h.c2], by simp [go_sem, h.f0], by simp [go_sem, h.f1], by simp [go_sem, h.f2]⟩
theorem tri_row_ne {w : World} {b B c n : Nat} {y z : Value} {l : List ByteArray} (h : Tri w b (.slice none 0 0) y z) (hg : GathS w B (.slice (some ⟨b, 0, none⟩) n c) l) (hl : 0 < l.length) : False := by
  obtain ⟨g, c', e, _, hs⟩ := hg.block hl
  obtain rfl : b = g := by simp only [Value.slice.injEq, Option.some.injEq, Addr.mk.injEq] at e; exact e.1.1
  have h0 := hs.cell hl
  rw [h.c0] at h0
  cases h0

set_option maxHeartbeats 12800000 in
theorem l4Copy_any (a0 a1 a2 : Option Addr) (c0 c1 c2 : Nat) (g : GatL) (w : World) (hg : GatP g) (r0 : RowS w a0 g.ins) (r1 : RowW w a1 g.wins) (r2 : Row w a2 g.shown) :
    Calls Tryz.prog 43 #[.agg #[.slice a0 g.ins.length c0, .slice a1 g.wins.length c1, .slice a2 g.shown.length c2]] w fun e w' => (∃ b t e0 e1 gm cm L, e = .returned (.agg #[.slice (some ⟨b, 0, none⟩) g.ins.length e0, .slice (some ⟨t, 0, none⟩) L.length e1, .slice (some ⟨gm, 0, none⟩) g.shown.length cm]) ∧ FullG w' w.heap.size w'.heap.size b t (some ⟨gm, 0, none⟩) g.ins L g.shown ∧ L.map (·.l) = g.wins ∧ (∀ k, w'.frozen? ⟨t, k, none⟩ = false) ∧ w.heap.size ≤ gm) ∧ Below w.heap.size w w' := by
  have HG : Hid (GatP g) := hg
  have h1i := hg.ins.1
  have h6 := hg.ins.2.1
  clear hg
  obtain ⟨bn, on, rfl, hbn, _⟩ := r0 0 (by omega)
  have BG : Below w.heap.size w ((w.alloc (.cells #[.slice (some ⟨bn, on, none⟩) g.ins.length c0, .slice a1 g.wins.length c1, .slice a2 g.shown.length c2] 36)).alloc (.cells #[.slice none 0 0, .slice none 0 0, .slice none 0 0] 36)) := ((Below.refl _ _).alloc (Nat.le_refl _) _).alloc (by simp) _
  have tP := (tri_new w (.slice (some ⟨bn, on, none⟩) g.ins.length c0) (.slice a1 g.wins.length c1) (.slice a2 g.shown.length c2) 36).keep (show Below _ _ ((w.alloc (.cells #[.slice (some ⟨bn, on, none⟩) g.ins.length c0, .slice a1 g.wins.length c1, .slice a2 g.shown.length c2] 36)).alloc (.cells #[.slice none 0 0, .slice none 0 0, .slice none 0 0] 36)) from (Below.refl _ _).alloc (Nat.le_refl _) _)
  have tR : Tri ((w.alloc (.cells #[.slice (some ⟨bn, on, none⟩) g.ins.length c0, .slice a1 g.wins.length c1, .slice a2 g.shown.length c2] 36)).alloc (.cells #[.slice none 0 0, .slice none 0 0, .slice none 0 0] 36)) (w.heap.size + 1) (.slice none 0 0) (.slice none 0 0) (.slice none 0 0) := by
    have h := tri_new (w.alloc (.cells #[.slice (some ⟨bn, on, none⟩) g.ins.length c0, .slice a1 g.wins.length c1, .slice a2 g.shown.length c2] 36)) (.slice none 0 0) (.slice none 0 0) (.slice none 0 0) 36
    rw [World.size_alloc] at h
    exact h
  have hz : ((w.alloc (.cells #[.slice (some ⟨bn, on, none⟩) g.ins.length c0, .slice a1 g.wins.length c1, .slice a2 g.shown.length c2] 36)).alloc (.cells #[.slice none 0 0, .slice none 0 0, .slice none 0 0] 36)).heap.size = w.heap.size + 2 := by simp
  go_enter Tryz.func43, Tryz.ntmps43
  go_wp2_with fail
  generalize (w.alloc (.cells #[.slice (some ⟨bn, on, none⟩) g.ins.length c0, .slice a1 g.wins.length c1, .slice a2 g.shown.length c2] 36)).alloc (.cells #[.slice none 0 0, .slice none 0 0, .slice none 0 0] 36) = WG at *
  have HN : Hid (∀ u : World, Below WG.heap.size WG u → ∀ j v, (g.ins.map Value.string)[j]? = some v → u.cell? ((⟨bn, on, none⟩ : Addr).add j) = some v) := fun u hu j v hj => by
    have hj' : j < g.ins.length := by
      rcases Nat.lt_or_ge j g.ins.length with h | h
      · exact h
      · rw [List.getElem?_eq_none (by simpa using h)] at hj; cases hj
    obtain ⟨b, o, e, _, hc⟩ := r0.below (BG.trans (hu.mono BG.size)) j hj'
    cases e
    have ea : (⟨bn, on, none⟩ : Addr).add j = ⟨bn, on + j, none⟩ := by unfold Addr.add; split <;> simp_all
    rw [ea, hc]
    simpa [hj'] using hj
  have HS : Hid (∀ u : World, Below WG.heap.size WG u → u.cell? ⟨w.heap.size, 0, none⟩ = some (.slice (some ⟨bn, on, none⟩) g.ins.length c0) ∧ u.cell? ⟨w.heap.size, 2, none⟩ = some (.slice a2 g.shown.length c2)) := fun u hu => ⟨cell_on hu (by omega) tP.c0, cell_on hu (by omega) tP.c2⟩
  refine wp_mono (Q := Exit.then (fun a' u => ∃ (bo g3 c3 gm cm : Nat) (v5 v6 v7 v8 v9 v10 v11 v12 : Value), a' = { tmps := #[.agg #[.slice (some ⟨bn, on, none⟩) g.ins.length c0, .slice a1 g.wins.length c1, .slice a2 g.shown.length c2], .pointer (some ⟨w.heap.size, 0, none⟩), .pointer (some ⟨w.heap.size + 1, 0, none⟩), .pointer (some ⟨bo, 0, none⟩), undef, v5, v6, v7, v8, v9, v10, v11, v12, undef, undef, undef, undef, undef, undef, undef, undef, undef, undef, undef, undef, undef, undef, undef, undef, undef, undef, undef], defers := [] } ∧
      Tri u bo (.slice (some ⟨g3, 0, none⟩) g.ins.length c3) (.slice none 0 0) (.slice (some ⟨gm, 0, none⟩) g.shown.length cm) ∧ GathS u WG.heap.size (.slice (some ⟨g3, 0, none⟩) g.ins.length c3) g.ins ∧ Own u gm g.shown ∧ bo ≠ g3 ∧ bo ≠ gm ∧ g3 ≠ gm ∧ WG.heap.size ≤ bo ∧ WG.heap.size ≤ gm ∧ g.shown.length ≤ cm ∧ Below WG.heap.size WG u) (fun _ _ _ => False)) ?_ ?_
  · rename_i k0
    have bu : Below WG.heap.size WG WG.drew := (Below.refl _ _).drew
    have Sx := HS.out _ bu
    refine wp_region_held_drew (S := fun u => u.cell? ⟨w.heap.size, 0, none⟩ = some (.slice (some ⟨bn, on, none⟩) g.ins.length c0) ∧ u.cell? ⟨w.heap.size, 2, none⟩ = some (.slice a2 g.shown.length c2)) (by kernel_rfl) Sx (fun _ => ?_)
    refine wpAnyH_take (i := 1) (v := .pointer (some ⟨w.heap.size, 0, none⟩)) rfl (by kernel_rfl) (by kernel_rfl) (by kernel_rfl) (fun _ _ _ h => h) (Or.inl ⟨by rfl, ?_⟩) Sx ?_
    · rintro u ⟨p1, p2⟩
      go_simp
    simp only [Act.put, List.setIfInBounds_toArray]
    refine wpAnyH_take (i := 2) (v := .slice (some ⟨bn, on, none⟩) g.ins.length c0) rfl (by kernel_rfl) (by kernel_rfl) (by kernel_rfl) (fun _ _ _ h => h) (Or.inl ⟨by rfl, ?_⟩) Sx ?_
    · rintro u ⟨p1, p2⟩
      go_simp
    simp only [Act.put]
    refine wpAnyH_take (i := 4) (v := .pointer (some ⟨w.heap.size, 2, none⟩)) rfl (by kernel_rfl) (by kernel_rfl) (by kernel_rfl) (fun _ _ _ h => h) (Or.inl ⟨by rfl, ?_⟩) Sx ?_
    · rintro u ⟨p1, p2⟩
      go_simp
    simp only [Act.put]
    refine wpAnyH_take (i := 5) (v := .slice a2 g.shown.length c2) rfl (by kernel_rfl) (by kernel_rfl) (by kernel_rfl) (fun _ _ _ h => h) (Or.inl ⟨by rfl, ?_⟩) Sx ?_
    · rintro u ⟨p1, p2⟩
      go_simp
    simp only [Act.put]
    generalize WG.drew = W1 at *
    clear Sx
    have Sx := HS.out _ bu
    refine wpAnyH_ready (rs := [0, 8]) (by kernel_rfl) (by simp) ?_
    refine AllReadyH.cons rfl (fun K hK => ?_) (AllReadyH.cons rfl (fun K hK => ?_) AllReadyH.nil)
    · rw [if_pos (by rfl)]
      go_simp
      have bx : Below W1.heap.size W1 (W1.alloc (.cells #[] 9)) := (Below.refl _ _).alloc (Nat.le_refl _) _
      have hown : (W1.alloc (.cells #[] 9)).ownsRow WG.heap.size 9 1 (.slice (some ⟨W1.heap.size, 0, none⟩) 0 0) 0 [] := ⟨rfl, .inr ⟨W1.heap.size, 0, #[], rfl, bu.size, heap_alloc_new W1 _, Nat.le_refl _, Nat.zero_le _, rfl, rfl⟩⟩
      replace bu := bu.trans (bx.mono bu.size)
      have hqz : W1.heap.size < (W1.alloc (.cells #[] 9)).heap.size := by simp
      obtain ⟨q0, hq0⟩ : ∃ q0, q0 = W1.heap.size := ⟨_, rfl⟩
      rw [← hq0] at hown hqz ⊢
      clear bx
      generalize W1.alloc (.cells #[] 9) = n1 at *
      clear hq0
      have Sx := HS.out _ bu
      refine hK.out _ _ Sx (fun _ => ?_)
      clear hK K
      refine wpAnyH_ready (rs := [3, 8]) (by kernel_rfl) (by simp) ?_
      refine AllReadyH.cons rfl (fun K hK => ?_) (AllReadyH.cons rfl (fun K hK => ?_) AllReadyH.nil)
      · rw [if_pos (by rfl)]
        refine wp_append_all _ _ rfl WG.heap.size (.slice (some ⟨q0, 0, none⟩) 0 0) rfl hown bu.size ⟨bn, on, none⟩ g.ins c0 rfl (HN.out _ bu) (by omega) ?_
        intro v3 n2 hgs hgr
        obtain ⟨g3, c3, rfl, hg3z, _⟩ := hgs.block (by omega)
        replace bu := bu.grown hgr bu.size (fun q hq => by have := own_from hown q hq; omega)
        have hg3l := (World.ownsRow.lt hgs g3 rfl).2
        clear hown hgr
        have Sx := HS.out _ bu
        refine hK.out _ _ Sx (fun _ => ?_)
        clear hK K
        refine wpAnyH_ready (rs := [6, 8]) (by kernel_rfl) (by simp) ?_
        refine AllReadyH.cons rfl (fun K hK => ?_) (AllReadyH.cons rfl (fun K hK => ?_) AllReadyH.nil)
        · rw [if_pos (by rfl)]
          go_simp
          refine (l2Marks_any a2 c2 g.shown _ (r2.below (BG.trans (bu.mono BG.size))) (by have := HG.out.shown.1; omega)).mono ?_
          rintro e n3 ⟨⟨gm, cm, rfl, hgmz, hcm, hom⟩, bx⟩
          have hgm3 : g3 ≠ gm := by have := hg3l; omega
          replace hgs := hgs.keep bx
          have hgmW : WG.heap.size ≤ gm := Nat.le_trans bu.size hgmz
          replace bu := bu.trans (bx.mono bu.size)
          replace hg3l := (World.ownsRow.lt hgs g3 rfl).2
          clear bx hgmz
          have Sx := HS.out _ bu
          refine hK.out _ _ Sx (fun _ => ?_)
          clear hK K
          refine wpAnyH_take (i := 7) (v := .agg #[.slice (some ⟨g3, 0, none⟩) g.ins.length c3, .slice none 0 0, .slice (some ⟨gm, 0, none⟩) g.shown.length cm]) rfl (by kernel_rfl) (by kernel_rfl) (by kernel_rfl) (fun _ _ _ h => h) (Or.inl ⟨by rfl, ?_⟩) Sx ?_
          · rintro u ⟨p1, p2⟩
            go_simp
          simp only [Act.put, List.setIfInBounds_toArray]
          refine wpAnyH_ready (rs := [8]) (by kernel_rfl) (by simp) ?_
          refine AllReadyH.cons rfl (fun K hK => ?_) AllReadyH.nil
          rw [if_pos (by rfl)]
          go_simp
          have bx : Below n3.heap.size n3 (n3.alloc (.cells #[.slice none 0 0, .slice none 0 0, .slice none 0 0] 36)) := (Below.refl _ _).alloc (Nat.le_refl _) _
          have hT := tri_new n3 (.slice none 0 0) (.slice none 0 0) (.slice none 0 0) 36
          obtain ⟨bo, hbo⟩ : ∃ bo, bo = n3.heap.size := ⟨_, rfl⟩
          have hboz : WG.heap.size ≤ bo := by rw [hbo]; exact bu.size
          replace hgs := hgs.keep bx
          have hbg : bo ≠ g3 := by have := hg3l; omega
          replace hg3l := (World.ownsRow.lt hgs g3 rfl).2
          have hbm : bo ≠ gm := by have := hom.lt; omega
          replace hom := hom.below bx
          rw [← hbo] at hT ⊢
          replace bu := bu.trans (bx.mono bu.size)
          have hTl : bo < (n3.alloc (.cells #[.slice none 0 0, .slice none 0 0, .slice none 0 0] 36)).heap.size := block_lt_of_cell hT.c0
          clear bx
          generalize n3.alloc (.cells #[.slice none 0 0, .slice none 0 0, .slice none 0 0] 36) = n4 at *
          clear hbo
          have Sx := HS.out _ bu
          refine hK.out _ _ Sx (fun _ => ?_)
          clear hK K
          refine wpAnyH_ready (rs := [9]) (by kernel_rfl) (by simp) ?_
          refine AllReadyH.cons rfl (fun K hK => ?_) AllReadyH.nil
          rw [if_pos (by rfl)]
          obtain ⟨i0, i1, i2, j0, j1, j2⟩ := id hT
          go_simp
          have hT9 := ((hT.set0 (.slice (some ⟨g3, 0, none⟩) g.ins.length c3)).set1 (.slice none 0 0)).set2c (.slice (some ⟨gm, 0, none⟩) g.shown.length cm)
          have hb9 : But bo n4 (((n4.setCell ⟨bo, 0, none⟩ (.slice (some ⟨g3, 0, none⟩) g.ins.length c3)).setCell ⟨bo, 1, none⟩ (.slice none 0 0)).setCell ⟨bo, 2, none⟩ (.slice (some ⟨gm, 0, none⟩) g.shown.length cm)) := (((But.refl _ _).setCell _ _).setCell _ _).setCell _ _
          have hg9 : GathS (((n4.setCell ⟨bo, 0, none⟩ (.slice (some ⟨g3, 0, none⟩) g.ins.length c3)).setCell ⟨bo, 1, none⟩ (.slice none 0 0)).setCell ⟨bo, 2, none⟩ (.slice (some ⟨gm, 0, none⟩) g.shown.length cm)) WG.heap.size (.slice (some ⟨g3, 0, none⟩) g.ins.length c3) g.ins := own_ne (own_ne (own_ne hgs (by simp [Value.ownBlock]; omega) _ _) (by simp [Value.ownBlock]; omega) _ _) (by simp [Value.ownBlock]; omega) _ _
          have ho9 := hb9.own hom (Ne.symm hbm)
          have B9 : Below WG.heap.size WG _ := bu.trans (hb9.below hboz bu.size)
          have S9 := HS.out _ B9
          refine hK.out _ _ S9 (fun _ => ?_)
          clear hK K
          refine wpAnyH_done (by kernel_rfl) ?_ _
          exact ⟨bo, g3, c3, gm, cm, _, _, _, _, _, _, _, _, rfl, hT9, hg9, ho9, hbg, hbm, hgm3, hboz, hgmW, hcm, B9⟩
        · rw [if_pos (by rfl)]
          go_simp
          have bx : Below n2.heap.size n2 (n2.alloc (.cells #[.slice none 0 0, .slice none 0 0, .slice none 0 0] 36)) := (Below.refl _ _).alloc (Nat.le_refl _) _
          have hT := tri_new n2 (.slice none 0 0) (.slice none 0 0) (.slice none 0 0) 36
          obtain ⟨bo, hbo⟩ : ∃ bo, bo = n2.heap.size := ⟨_, rfl⟩
          have hboz : WG.heap.size ≤ bo := by rw [hbo]; exact bu.size
          replace hgs := hgs.keep bx
          have hbg : bo ≠ g3 := by have := hg3l; omega
          replace hg3l := (World.ownsRow.lt hgs g3 rfl).2
          rw [← hbo] at hT ⊢
          replace bu := bu.trans (bx.mono bu.size)
          have hTl : bo < (n2.alloc (.cells #[.slice none 0 0, .slice none 0 0, .slice none 0 0] 36)).heap.size := block_lt_of_cell hT.c0
          clear bx
          generalize n2.alloc (.cells #[.slice none 0 0, .slice none 0 0, .slice none 0 0] 36) = n5 at *
          clear hbo
          have Sx := HS.out _ bu
          refine hK.out _ _ Sx (fun _ => ?_)
          clear hK K
          refine wpAnyH_ready (rs := [6]) (by kernel_rfl) (by simp) ?_
          refine AllReadyH.cons rfl (fun K hK => ?_) AllReadyH.nil
          rw [if_pos (by rfl)]
          go_simp
          refine (l2Marks_any a2 c2 g.shown _ (r2.below (BG.trans (bu.mono BG.size))) (by have := HG.out.shown.1; omega)).mono ?_
          rintro e n6 ⟨⟨gm, cm, rfl, hgmz, hcm, hom⟩, bx⟩
          have hgm3 : g3 ≠ gm := by have := hg3l; omega
          have hbm : bo ≠ gm := by have := hTl; omega
          replace hT := hT.keep bx
          replace hTl : bo < n6.heap.size := block_lt_of_cell hT.c0
          replace hgs := hgs.keep bx
          have hgmW : WG.heap.size ≤ gm := Nat.le_trans bu.size hgmz
          replace bu := bu.trans (bx.mono bu.size)
          replace hg3l := (World.ownsRow.lt hgs g3 rfl).2
          clear bx hgmz
          have Sx := HS.out _ bu
          refine hK.out _ _ Sx (fun _ => ?_)
          clear hK K
          refine wpAnyH_take (i := 7) (v := .agg #[.slice (some ⟨g3, 0, none⟩) g.ins.length c3, .slice none 0 0, .slice (some ⟨gm, 0, none⟩) g.shown.length cm]) rfl (by kernel_rfl) (by kernel_rfl) (by kernel_rfl) (fun _ _ _ h => h) (Or.inl ⟨by rfl, ?_⟩) Sx ?_
          · rintro u ⟨p1, p2⟩
            go_simp
          simp only [Act.put, List.setIfInBounds_toArray]
          refine wpAnyH_ready (rs := [9]) (by kernel_rfl) (by simp) ?_
          refine AllReadyH.cons rfl (fun K hK => ?_) AllReadyH.nil
          rw [if_pos (by rfl)]
          obtain ⟨i0, i1, i2, j0, j1, j2⟩ := id hT
          go_simp
          have hT9 := ((hT.set0 (.slice (some ⟨g3, 0, none⟩) g.ins.length c3)).set1 (.slice none 0 0)).set2c (.slice (some ⟨gm, 0, none⟩) g.shown.length cm)
          have hb9 : But bo n6 (((n6.setCell ⟨bo, 0, none⟩ (.slice (some ⟨g3, 0, none⟩) g.ins.length c3)).setCell ⟨bo, 1, none⟩ (.slice none 0 0)).setCell ⟨bo, 2, none⟩ (.slice (some ⟨gm, 0, none⟩) g.shown.length cm)) := (((But.refl _ _).setCell _ _).setCell _ _).setCell _ _
          have hg9 : GathS (((n6.setCell ⟨bo, 0, none⟩ (.slice (some ⟨g3, 0, none⟩) g.ins.length c3)).setCell ⟨bo, 1, none⟩ (.slice none 0 0)).setCell ⟨bo, 2, none⟩ (.slice (some ⟨gm, 0, none⟩) g.shown.length cm)) WG.heap.size (.slice (some ⟨g3, 0, none⟩) g.ins.length c3) g.ins := own_ne (own_ne (own_ne hgs (by simp [Value.ownBlock]; omega) _ _) (by simp [Value.ownBlock]; omega) _ _) (by simp [Value.ownBlock]; omega) _ _
          have ho9 := hb9.own hom (Ne.symm hbm)
          have B9 : Below WG.heap.size WG _ := bu.trans (hb9.below hboz bu.size)
          have S9 := HS.out _ B9
          refine hK.out _ _ S9 (fun _ => ?_)
          clear hK K
          refine wpAnyH_done (by kernel_rfl) ?_ _
          exact ⟨bo, g3, c3, gm, cm, _, _, _, _, _, _, _, _, rfl, hT9, hg9, ho9, hbg, hbm, hgm3, hboz, hgmW, hcm, B9⟩
      · rw [if_pos (by rfl)]
        go_simp
        have bx : Below n1.heap.size n1 (n1.alloc (.cells #[.slice none 0 0, .slice none 0 0, .slice none 0 0] 36)) := (Below.refl _ _).alloc (Nat.le_refl _) _
        have hT := tri_new n1 (.slice none 0 0) (.slice none 0 0) (.slice none 0 0) 36
        obtain ⟨bo, hbo⟩ : ∃ bo, bo = n1.heap.size := ⟨_, rfl⟩
        have hboz : WG.heap.size ≤ bo := by rw [hbo]; exact bu.size
        replace hown := own_keep hown bx
        have hqT : bo ≠ q0 := by omega
        rw [← hbo] at hT ⊢
        replace bu := bu.trans (bx.mono bu.size)
        have hTl : bo < (n1.alloc (.cells #[.slice none 0 0, .slice none 0 0, .slice none 0 0] 36)).heap.size := block_lt_of_cell hT.c0
        clear bx
        generalize n1.alloc (.cells #[.slice none 0 0, .slice none 0 0, .slice none 0 0] 36) = n7 at *
        clear hbo
        have Sx := HS.out _ bu
        refine hK.out _ _ Sx (fun _ => ?_)
        clear hK K
        refine wpAnyH_ready (rs := [3]) (by kernel_rfl) (by simp) ?_
        refine AllReadyH.cons rfl (fun K hK => ?_) AllReadyH.nil
        rw [if_pos (by rfl)]
        refine wp_append_all _ _ rfl WG.heap.size (.slice (some ⟨q0, 0, none⟩) 0 0) rfl hown bu.size ⟨bn, on, none⟩ g.ins c0 rfl (HN.out _ bu) (by omega) ?_
        intro v3 n8 hgs hgr
        obtain ⟨g3, c3, rfl, hg3z, _⟩ := hgs.block (by omega)
        replace hT := hT.grown hgr (by intro e; exact hqT (by simpa [Value.ownBlock] using e))
        have hbg : bo ≠ g3 := fun e => by have hx := hgs; rw [← e] at hx; exact tri_row_ne hT hx (by omega)
        replace bu := bu.grown hgr bu.size (fun q hq => by have := own_from hown q hq; omega)
        have hg3l := (World.ownsRow.lt hgs g3 rfl).2
        clear hown hgr
        replace hTl : bo < n8.heap.size := block_lt_of_cell hT.c0
        have Sx := HS.out _ bu
        refine hK.out _ _ Sx (fun _ => ?_)
        clear hK K
        refine wpAnyH_ready (rs := [6]) (by kernel_rfl) (by simp) ?_
        refine AllReadyH.cons rfl (fun K hK => ?_) AllReadyH.nil
        rw [if_pos (by rfl)]
        go_simp
        refine (l2Marks_any a2 c2 g.shown _ (r2.below (BG.trans (bu.mono BG.size))) (by have := HG.out.shown.1; omega)).mono ?_
        rintro e n9 ⟨⟨gm, cm, rfl, hgmz, hcm, hom⟩, bx⟩
        have hgm3 : g3 ≠ gm := by have := hg3l; omega
        have hbm : bo ≠ gm := by have := hTl; omega
        replace hT := hT.keep bx
        replace hTl : bo < n9.heap.size := block_lt_of_cell hT.c0
        replace hgs := hgs.keep bx
        have hgmW : WG.heap.size ≤ gm := Nat.le_trans bu.size hgmz
        replace bu := bu.trans (bx.mono bu.size)
        replace hg3l := (World.ownsRow.lt hgs g3 rfl).2
        clear bx hgmz
        have Sx := HS.out _ bu
        refine hK.out _ _ Sx (fun _ => ?_)
        clear hK K
        refine wpAnyH_take (i := 7) (v := .agg #[.slice (some ⟨g3, 0, none⟩) g.ins.length c3, .slice none 0 0, .slice (some ⟨gm, 0, none⟩) g.shown.length cm]) rfl (by kernel_rfl) (by kernel_rfl) (by kernel_rfl) (fun _ _ _ h => h) (Or.inl ⟨by rfl, ?_⟩) Sx ?_
        · rintro u ⟨p1, p2⟩
          go_simp
        simp only [Act.put, List.setIfInBounds_toArray]
        refine wpAnyH_ready (rs := [9]) (by kernel_rfl) (by simp) ?_
        refine AllReadyH.cons rfl (fun K hK => ?_) AllReadyH.nil
        rw [if_pos (by rfl)]
        obtain ⟨i0, i1, i2, j0, j1, j2⟩ := id hT
        go_simp
        have hT9 := ((hT.set0 (.slice (some ⟨g3, 0, none⟩) g.ins.length c3)).set1 (.slice none 0 0)).set2c (.slice (some ⟨gm, 0, none⟩) g.shown.length cm)
        have hb9 : But bo n9 (((n9.setCell ⟨bo, 0, none⟩ (.slice (some ⟨g3, 0, none⟩) g.ins.length c3)).setCell ⟨bo, 1, none⟩ (.slice none 0 0)).setCell ⟨bo, 2, none⟩ (.slice (some ⟨gm, 0, none⟩) g.shown.length cm)) := (((But.refl _ _).setCell _ _).setCell _ _).setCell _ _
        have hg9 : GathS (((n9.setCell ⟨bo, 0, none⟩ (.slice (some ⟨g3, 0, none⟩) g.ins.length c3)).setCell ⟨bo, 1, none⟩ (.slice none 0 0)).setCell ⟨bo, 2, none⟩ (.slice (some ⟨gm, 0, none⟩) g.shown.length cm)) WG.heap.size (.slice (some ⟨g3, 0, none⟩) g.ins.length c3) g.ins := own_ne (own_ne (own_ne hgs (by simp [Value.ownBlock]; omega) _ _) (by simp [Value.ownBlock]; omega) _ _) (by simp [Value.ownBlock]; omega) _ _
        have ho9 := hb9.own hom (Ne.symm hbm)
        have B9 : Below WG.heap.size WG _ := bu.trans (hb9.below hboz bu.size)
        have S9 := HS.out _ B9
        refine hK.out _ _ S9 (fun _ => ?_)
        clear hK K
        refine wpAnyH_done (by kernel_rfl) ?_ _
        exact ⟨bo, g3, c3, gm, cm, _, _, _, _, _, _, _, _, rfl, hT9, hg9, ho9, hbg, hbm, hgm3, hboz, hgmW, hcm, B9⟩
    · rw [if_pos (by rfl)]
      go_simp
      have bx : Below W1.heap.size W1 (W1.alloc (.cells #[.slice none 0 0, .slice none 0 0, .slice none 0 0] 36)) := (Below.refl _ _).alloc (Nat.le_refl _) _
      have hT := tri_new W1 (.slice none 0 0) (.slice none 0 0) (.slice none 0 0) 36
      obtain ⟨bo, hbo⟩ : ∃ bo, bo = W1.heap.size := ⟨_, rfl⟩
      have hboz : WG.heap.size ≤ bo := by rw [hbo]; exact bu.size
      rw [← hbo] at hT ⊢
      replace bu := bu.trans (bx.mono bu.size)
      have hTl : bo < (W1.alloc (.cells #[.slice none 0 0, .slice none 0 0, .slice none 0 0] 36)).heap.size := block_lt_of_cell hT.c0
      clear bx
      generalize W1.alloc (.cells #[.slice none 0 0, .slice none 0 0, .slice none 0 0] 36) = n10 at *
      clear hbo
      have Sx := HS.out _ bu
      refine hK.out _ _ Sx (fun _ => ?_)
      clear hK K
      refine wpAnyH_ready (rs := [0]) (by kernel_rfl) (by simp) ?_
      refine AllReadyH.cons rfl (fun K hK => ?_) AllReadyH.nil
      rw [if_pos (by rfl)]
      go_simp
      have bx : Below n10.heap.size n10 (n10.alloc (.cells #[] 9)) := (Below.refl _ _).alloc (Nat.le_refl _) _
      have hown : (n10.alloc (.cells #[] 9)).ownsRow WG.heap.size 9 1 (.slice (some ⟨n10.heap.size, 0, none⟩) 0 0) 0 [] := ⟨rfl, .inr ⟨n10.heap.size, 0, #[], rfl, bu.size, heap_alloc_new n10 _, Nat.le_refl _, Nat.zero_le _, rfl, rfl⟩⟩
      replace hT := hT.keep bx
      replace bu := bu.trans (bx.mono bu.size)
      have hqz : n10.heap.size < (n10.alloc (.cells #[] 9)).heap.size := by simp
      obtain ⟨q0, hq0⟩ : ∃ q0, q0 = n10.heap.size := ⟨_, rfl⟩
      rw [← hq0] at hown hqz ⊢
      have hqT : bo ≠ q0 := by have := hTl; omega
      clear bx
      generalize n10.alloc (.cells #[] 9) = n11 at *
      clear hq0
      have Sx := HS.out _ bu
      refine hK.out _ _ Sx (fun _ => ?_)
      clear hK K
      refine wpAnyH_ready (rs := [3]) (by kernel_rfl) (by simp) ?_
      refine AllReadyH.cons rfl (fun K hK => ?_) AllReadyH.nil
      rw [if_pos (by rfl)]
      refine wp_append_all _ _ rfl WG.heap.size (.slice (some ⟨q0, 0, none⟩) 0 0) rfl hown bu.size ⟨bn, on, none⟩ g.ins c0 rfl (HN.out _ bu) (by omega) ?_
      intro v3 n12 hgs hgr
      obtain ⟨g3, c3, rfl, hg3z, _⟩ := hgs.block (by omega)
      replace hT := hT.grown hgr (by intro e; exact hqT (by simpa [Value.ownBlock] using e))
      have hbg : bo ≠ g3 := fun e => by have hx := hgs; rw [← e] at hx; exact tri_row_ne hT hx (by omega)
      replace bu := bu.grown hgr bu.size (fun q hq => by have := own_from hown q hq; omega)
      have hg3l := (World.ownsRow.lt hgs g3 rfl).2
      clear hown hgr
      replace hTl : bo < n12.heap.size := block_lt_of_cell hT.c0
      have Sx := HS.out _ bu
      refine hK.out _ _ Sx (fun _ => ?_)
      clear hK K
      refine wpAnyH_ready (rs := [6]) (by kernel_rfl) (by simp) ?_
      refine AllReadyH.cons rfl (fun K hK => ?_) AllReadyH.nil
      rw [if_pos (by rfl)]
      go_simp
      refine (l2Marks_any a2 c2 g.shown _ (r2.below (BG.trans (bu.mono BG.size))) (by have := HG.out.shown.1; omega)).mono ?_
      rintro e n13 ⟨⟨gm, cm, rfl, hgmz, hcm, hom⟩, bx⟩
      have hgm3 : g3 ≠ gm := by have := hg3l; omega
      have hbm : bo ≠ gm := by have := hTl; omega
      replace hT := hT.keep bx
      replace hTl : bo < n13.heap.size := block_lt_of_cell hT.c0
      replace hgs := hgs.keep bx
      have hgmW : WG.heap.size ≤ gm := Nat.le_trans bu.size hgmz
      replace bu := bu.trans (bx.mono bu.size)
      replace hg3l := (World.ownsRow.lt hgs g3 rfl).2
      clear bx hgmz
      have Sx := HS.out _ bu
      refine hK.out _ _ Sx (fun _ => ?_)
      clear hK K
      refine wpAnyH_take (i := 7) (v := .agg #[.slice (some ⟨g3, 0, none⟩) g.ins.length c3, .slice none 0 0, .slice (some ⟨gm, 0, none⟩) g.shown.length cm]) rfl (by kernel_rfl) (by kernel_rfl) (by kernel_rfl) (fun _ _ _ h => h) (Or.inl ⟨by rfl, ?_⟩) Sx ?_
      · rintro u ⟨p1, p2⟩
        go_simp
      simp only [Act.put, List.setIfInBounds_toArray]
      refine wpAnyH_ready (rs := [9]) (by kernel_rfl) (by simp) ?_
      refine AllReadyH.cons rfl (fun K hK => ?_) AllReadyH.nil
      rw [if_pos (by rfl)]
      obtain ⟨i0, i1, i2, j0, j1, j2⟩ := id hT
      go_simp
      have hT9 := ((hT.set0 (.slice (some ⟨g3, 0, none⟩) g.ins.length c3)).set1 (.slice none 0 0)).set2c (.slice (some ⟨gm, 0, none⟩) g.shown.length cm)
      have hb9 : But bo n13 (((n13.setCell ⟨bo, 0, none⟩ (.slice (some ⟨g3, 0, none⟩) g.ins.length c3)).setCell ⟨bo, 1, none⟩ (.slice none 0 0)).setCell ⟨bo, 2, none⟩ (.slice (some ⟨gm, 0, none⟩) g.shown.length cm)) := (((But.refl _ _).setCell _ _).setCell _ _).setCell _ _
      have hg9 : GathS (((n13.setCell ⟨bo, 0, none⟩ (.slice (some ⟨g3, 0, none⟩) g.ins.length c3)).setCell ⟨bo, 1, none⟩ (.slice none 0 0)).setCell ⟨bo, 2, none⟩ (.slice (some ⟨gm, 0, none⟩) g.shown.length cm)) WG.heap.size (.slice (some ⟨g3, 0, none⟩) g.ins.length c3) g.ins := own_ne (own_ne (own_ne hgs (by simp [Value.ownBlock]; omega) _ _) (by simp [Value.ownBlock]; omega) _ _) (by simp [Value.ownBlock]; omega) _ _
      have ho9 := hb9.own hom (Ne.symm hbm)
      have B9 : Below WG.heap.size WG _ := bu.trans (hb9.below hboz bu.size)
      have S9 := HS.out _ B9
      refine hK.out _ _ S9 (fun _ => ?_)
      clear hK K
      refine wpAnyH_done (by kernel_rfl) ?_ _
      exact ⟨bo, g3, c3, gm, cm, _, _, _, _, _, _, _, _, rfl, hT9, hg9, ho9, hbg, hbm, hgm3, hboz, hgmW, hcm, B9⟩
  · rintro e a' u h
    cases e <;> first | exact h.elim | skip
    obtain ⟨bo, g3, c3, gm, cm, v5, v6, v7, v8, v9, v10, v11, v12, rfl, hT, hgs, hom, hbg, hbm, hgm3, hboz, hgmz, hcm, bu⟩ := h
    have hTP := tP.keep bu
    have tR' := tR.keep bu
    have hTl : bo < u.heap.size := block_lt_of_cell hT.c0
    obtain ⟨g3', c3', hg3e, hg3z, hsb⟩ := hgs.block (by omega)
    obtain rfl : g3 = g3' := by simp only [Value.slice.injEq, Option.some.injEq, Addr.mk.injEq] at hg3e; exact hg3e.1.1
    have hgl : g3 < u.heap.size := hsb.lt
    have hml := hom.lt
    have BU : Below w.heap.size w u := BG.trans (bu.mono BG.size)
    have HLEN : Hid (g.wins.length = g.ins.length) := HG.out.len
    have hl6 : g.wins.length ≤ 6 := by have := HLEN.out; omega
    have hl0 : 0 < g.wins.length := by have := HLEN.out; omega
    clear HN HS tP tR hgs hg3e
    obtain ⟨Z, hZ⟩ : ∃ Z, Z = u.heap.size := ⟨_, rfl⟩
    rw [← hZ] at hTl hgl hml
    have hZu : Z ≤ u.heap.size := by omega
    have hwZ : w.heap.size + 2 ≤ Z := by have := bu.size; omega
    clear hZ
    go_wp2_with fail
    go_loopw [4] (fun i wr => ∃ (k : Nat) (vw : Value) (L : List WinY), k ≤ g.wins.length ∧ i = .int .i64 k ∧ GathY wr Z vw L ∧ Hid (L.map (·.l) = g.wins.take k) ∧ StrB wr g3 g.ins ∧ Own wr gm g.shown ∧ Tri wr bo (.slice (some ⟨g3, 0, none⟩) g.ins.length c3) vw (.slice (some ⟨gm, 0, none⟩) g.shown.length cm) ∧ Tri wr w.heap.size (.slice (some ⟨bn, on, none⟩) g.ins.length c0) (.slice a1 g.wins.length c1) (.slice a2 g.shown.length c2) ∧ Tri wr (w.heap.size + 1) (.slice none 0 0) (.slice none 0 0) (.slice none 0 0) ∧ Z ≤ wr.heap.size ∧ Below w.heap.size w wr) (fun i _ => g.wins.length - (intOf i).toNat)
    case atStart => exact ⟨0, _, [], Nat.zero_le _, rfl, gathY_none _ _, by simp [Hid], hsb, hom, hT, hTP, tR', hZu, BU⟩
    case round =>
      clear hsb hom hT hTP tR' BU bu
      obtain ⟨k, vw, L, hk, rfl, hgy, HL, hsb, hom, hT, hTP, tR', hZr, hbl⟩ := hrel
      have hpx := hTP.c1
      by_cases hlt : k < g.wins.length
      · obtain ⟨bw, ow, rfl, hbw, sw, tw, m0, htw, hrw⟩ := r1.below hbl k hlt
        have hbw0 : bw < w.heap.size := by
          obtain ⟨b', o', e, hb, _⟩ := r1 k hlt
          cases e
          exact hb
        have k0 : (0 : Int) ≤ (k : Int) := by omega
        have k1 : (k : Int) < (g.wins.length : Int) := by omega
        have hfi : ∀ u, Below wr.heap.size wr u → Calls Tryz.prog 81 #[.slice sw g.wins[k].length tw] u fun e w' => (∃ v, e = .returned v ∧ GathI w' u.heap.size v g.wins[k]) ∧ Below u.heap.size u w' := fun u hu => l2Items_any sw tw g.wins[k] u (winP_stamps (HG.out.wins.2.2 k hlt)).small (hrw.below hu)
        have x1 := hT.c1
        have hbo1 : bo < wr.heap.size := block_lt_of_cell hT.c0
        have hpw : w.heap.size < wr.heap.size := block_lt_of_cell hTP.c0
        go_wp2_with fail
        have hbd6 : Below wr.heap.size wr wr.drew := (Below.refl _ _).drew
        have HSS : Hid (∀ u : World, Below wr.heap.size wr u → u.cell? ⟨w.heap.size, 1, none⟩ = some (.slice (some ⟨bw, ow, none⟩) g.wins.length c1) ∧ u.cell? ⟨bw, ow + k, none⟩ = some (.slice sw g.wins[k].length tw)) := fun u hu => ⟨cell_on hu hpw hTP.c1, cell_on hu hbw m0⟩
        have SW := HSS.out _ hbd6
        have x1d : wr.drew.cell? ⟨bo, 1, none⟩ = some vw := x1
        refine wp_region_held_drew (S := fun u => u.cell? ⟨w.heap.size, 1, none⟩ = some (.slice (some ⟨bw, ow, none⟩) g.wins.length c1) ∧ u.cell? ⟨bw, ow + k, none⟩ = some (.slice sw g.wins[k].length tw)) (by kernel_rfl) SW (fun _ => ?_)
        refine wpAnyH_take (i := 0) (v := .pointer (some ⟨bo, 1, none⟩)) rfl (by kernel_rfl) (by kernel_rfl) (by kernel_rfl) (fun _ _ _ h => h) (Or.inl ⟨by rfl, ?_⟩) SW ?_
        · rintro u ⟨q1, q2⟩
          go_simp
        simp only [Act.put, List.setIfInBounds_toArray]
        refine wpAnyH_take (i := 2) (v := .pointer (some ⟨w.heap.size, 1, none⟩)) rfl (by kernel_rfl) (by kernel_rfl) (by kernel_rfl) (fun _ _ _ h => h) (Or.inl ⟨by rfl, ?_⟩) SW ?_
        · rintro u ⟨q1, q2⟩
          go_simp
        simp only [Act.put]
        refine wpAnyH_take (i := 3) (v := .slice (some ⟨bw, ow, none⟩) g.wins.length c1) rfl (by kernel_rfl) (by kernel_rfl) (by kernel_rfl) (fun _ _ _ h => h) (Or.inl ⟨by rfl, ?_⟩) SW ?_
        · rintro u ⟨q1, q2⟩
          go_simp
        simp only [Act.put]
        refine wpAnyH_take (i := 4) (v := .int .i64 k) rfl (by kernel_rfl) (by kernel_rfl) (by kernel_rfl) (fun _ _ _ h => h) (Or.inl ⟨by rfl, ?_⟩) SW ?_
        · rintro u ⟨q1, q2⟩
          go_simp
        simp only [Act.put]
        refine wpAnyH_take (i := 5) (v := .pointer (some ⟨bw, ow + k, none⟩)) rfl (by kernel_rfl) (by kernel_rfl) (by kernel_rfl) (fun _ _ _ h => h) (Or.inl ⟨by rfl, ?_⟩) SW ?_
        · rintro u ⟨q1, q2⟩
          go_simp
        simp only [Act.put]
        refine wpAnyH_take (i := 6) (v := .slice sw g.wins[k].length tw) rfl (by kernel_rfl) (by kernel_rfl) (by kernel_rfl) (fun _ _ _ h => h) (Or.inl ⟨by rfl, ?_⟩) SW ?_
        · rintro u ⟨q1, q2⟩
          go_simp
        simp only [Act.put]
        refine wpAnyH_ready (rs := [1, 7]) (by kernel_rfl) (by simp) ?_
        refine AllReadyH.cons rfl (fun K hK => ?_) (AllReadyH.cons rfl (fun K hK => ?_) AllReadyH.nil)
        rw [if_pos (by rfl)]
        go_simp
        refine hK.out _ _ SW (fun _ => ?_)
        clear hK K
        refine wpAnyH_ready (rs := [7]) (by kernel_rfl) (by simp) ?_
        refine AllReadyH.cons rfl (fun K hK => ?_) AllReadyH.nil
        rw [if_pos (by rfl)]
        go_simp
        refine (hfi _ hbd6).mono ?_
        rintro e w7 ⟨⟨v7, rfl, hg7⟩, b7⟩
        have b7' : Below wr.heap.size wr w7 := hbd6.trans (b7.mono hbd6.size)
        have S7 := HSS.out _ b7'
        refine hK.out _ _ S7 (fun _ => ?_)
        clear hK K
        obtain ⟨v7a, v7c, rfl, h7c, _⟩ := hg7.safe
        have b8 : Below wr.heap.size wr (w7.alloc (.cells #[.slice v7a g.wins[k].length v7c] 78)) := b7'.alloc b7'.size _
        have S8 := HSS.out _ b8
        refine wpAnyH_ready (rs := [8]) (by kernel_rfl) (by simp) ?_
        refine AllReadyH.cons rfl (fun K hK => ?_) AllReadyH.nil
        rw [if_pos (by rfl)]
        go_simp
        refine hK.out _ _ S8 (fun _ => ?_)
        clear hK K
        rotate_left
        rw [if_pos (by rfl)]
        go_simp
        refine (hfi _ hbd6).mono ?_
        rintro e w7 ⟨⟨v7, rfl, hg7⟩, b7⟩
        have b7' : Below wr.heap.size wr w7 := hbd6.trans (b7.mono hbd6.size)
        have S7 := HSS.out _ b7'
        refine hK.out _ _ S7 (fun _ => ?_)
        clear hK K
        obtain ⟨v7a, v7c, rfl, h7c, _⟩ := hg7.safe
        have b8 : Below wr.heap.size wr (w7.alloc (.cells #[.slice v7a g.wins[k].length v7c] 78)) := b7'.alloc b7'.size _
        have S8 := HSS.out _ b8
        have y7 := (hT.keep b7').c1
        have y8 := (hT.keep b8).c1
        refine wpAnyH_ready (rs := [1, 8]) (by kernel_rfl) (by simp) ?_
        refine AllReadyH.cons rfl (fun K hK => ?_) (AllReadyH.cons rfl (fun K hK => ?_) AllReadyH.nil)
        rw [if_pos (by rfl)]
        go_simp
        refine hK.out _ _ S7 (fun _ => ?_)
        clear hK K
        refine wpAnyH_ready (rs := [8]) (by kernel_rfl) (by simp) ?_
        refine AllReadyH.cons rfl (fun K hK => ?_) AllReadyH.nil
        rw [if_pos (by rfl)]
        go_simp
        refine hK.out _ _ S8 (fun _ => ?_)
        clear hK K y7 y8
        rotate_left
        rw [if_pos (by rfl)]
        go_simp
        refine hK.out _ _ S8 (fun _ => ?_)
        clear hK K
        refine wpAnyH_ready (rs := [1]) (by kernel_rfl) (by simp) ?_
        refine AllReadyH.cons rfl (fun K hK => ?_) AllReadyH.nil
        rw [if_pos (by rfl)]
        go_simp
        refine hK.out _ _ S8 (fun _ => ?_)
        clear hK K y7 y8
        all_goals
          have hzd : wr.drew.heap.size = wr.heap.size := rfl
          have hin0 := hg7.winY b7.size
          have hin : (WinY.mk g.wins[k] (.slice v7a g.wins[k].length v7c) wr.drew.heap.size w7.heap.size).In w7 Z := ⟨hin0.1, by show Z ≤ wr.drew.heap.size; omega, hin0.2.2.1, hin0.2.2.2⟩
          have hbx8 : Below w7.heap.size w7 (w7.alloc (.cells #[.slice v7a g.wins[k].length v7c] 78)) := (Below.refl _ _).alloc (Nat.le_refl _) _
          have hlL : L.length ≤ 1048576 := by have := congrArg List.length HL.out; rw [List.length_map, List.length_take] at this; omega
          refine wpAnyH_ready (rs := [9]) (by kernel_rfl) (by simp) ?_
          refine AllReadyH.cons rfl (fun K hK => ?_) AllReadyH.nil
          rw [if_pos (by rfl)]
          refine wp_append_win _ _ rfl Z vw L rfl (hgy.keep b8) (by have := b8.size; omega) w7.heap.size (WinY.mk g.wins[k] (.slice v7a g.wins[k].length v7c) wr.drew.heap.size w7.heap.size) (fun q hq => by have := (hgy.at_ q hq).2.2.2; exact this) (hin.below hbx8) (fun q hq => .inl (by have := (World.ownsRow.lt hgy.own q hq).2; exact this)) rfl (by simp [go_sem]) hlL ?_
          intro vw' w9 hgy9 hgr9 hloc9
          have hfar9 : ∀ q, q < Z → some q ≠ vw.ownBlock := fun q hq e => by have := own_from hgy.own q e.symm; omega
          have tP9 := (hTP.keep b8).grown hgr9 (hfar9 _ (by omega))
          have tR9 := (tR'.keep b8).grown hgr9 (hfar9 _ (by omega))
          have tT9 := (hT.keep b8).grown hgr9 (hfar9 _ (by omega))
          have hom9 := own_grown (hom.below b8) hgr9 (hfar9 _ (by omega))
          have hsb9 : StrB w9 g3 g.ins := by
            have h8 := hsb.below b8
            obtain ⟨mm, f, h7, hf⟩ := id h8
            exact ⟨mm, f, h7.of_block (hgr9.block g3 h8.lt (hfar9 _ (by omega))), hf⟩
          have z9 := hgr9.size
          have z8 := b8.size
          have B9 : Below w.heap.size w w9 := (hbl.trans (b8.mono hbl.size)).grown hgr9 (by have := hbl.size; omega) (fun q hq => by have := own_from hgy.own q hq; omega)
          have HL9 : Hid ((L ++ [(WinY.mk g.wins[k] (.slice v7a g.wins[k].length v7c) wr.drew.heap.size w7.heap.size)]).map (·.l) = g.wins.take (k + 1)) := by
            unfold Hid
            rw [List.map_append, HL.out, List.take_succ_eq_append_getElem hlt]
            rfl
          have S9 : w9.cell? ⟨w.heap.size, 1, none⟩ = some (.slice (some ⟨bw, ow, none⟩) g.wins.length c1) ∧ w9.cell? ⟨bw, ow + k, none⟩ = some (.slice sw g.wins[k].length tw) := ⟨tP9.c1, grown_cell hgr9 (hfar9 _ (by omega)) S8.2⟩
          obtain ⟨vwa, vwc, rfl, _, _⟩ := hgy9.row
          generalize (L ++ [(WinY.mk g.wins[k] (.slice v7a g.wins[k].length v7c) wr.drew.heap.size w7.heap.size)]) = L9 at *
          generalize L9.length = n9 at hgy9 hloc9 ⊢
          refine hK.out _ _ S9 (fun _ => ?_)
          clear hK K
          have q0 := tT9.c1
          have q1 := tT9.f1
          refine wpAnyH_ready (rs := [10]) (by kernel_rfl) (by simp) ?_
          refine AllReadyH.cons rfl (fun K hK => ?_) AllReadyH.nil
          rw [if_pos (by rfl)]
          go_simp
          refine hK.out _ _ S9 (fun _ => ?_)
          clear hK K
          have tPf := tP9.far (q := bo) (by omega) 1 (.slice vwa n9 vwc)
          have S10 : (w9.setCell ⟨bo, 1, none⟩ (.slice vwa n9 vwc)).cell? ⟨w.heap.size, 1, none⟩ = some (.slice (some ⟨bw, ow, none⟩) g.wins.length c1) ∧ (w9.setCell ⟨bo, 1, none⟩ (.slice vwa n9 vwc)).cell? ⟨bw, ow + k, none⟩ = some (.slice sw g.wins[k].length tw) := ⟨tPf.c1, by rw [set_far _ _ _ _ (by omega)]; exact S9.2⟩
          have hsbf : StrB (w9.setCell ⟨bo, 1, none⟩ (.slice vwa n9 vwc)) g3 g.ins := hsb9.span ((Span.refl bo (bo + 1) w9).setCell (Nat.le_refl _) (Nat.lt_succ_self _) 1 _) (by omega)
          refine wpAnyH_ready (rs := [11]) (by kernel_rfl) (by simp) ?_
          refine AllReadyH.cons rfl (fun K hK => ?_) AllReadyH.nil
          rw [if_pos (by rfl)]
          go_simp
          refine hK.out _ _ S10 (fun _ => ?_)
          clear hK K
          refine wpAnyH_done (by kernel_rfl) ?_ _
          go_wp2_with fail
          exact ⟨⟨k + 1, _, L9, by omega, by go_num, hgy9.set (by omega) 1 _, HL9, hsbf, hom9.setOther (by omega) 1 _, tT9.set1 _, tPf, tR9.far (by omega) 1 _, by simp only [World.size_setCell]; omega, B9.setCell (by simp only; omega) _⟩, by simp [intOf]; omega⟩
      · obtain rfl : k = g.wins.length := by omega
        have HLE : Hid (L.map (·.l) = g.wins) := by
          have := HL.out
          rw [List.take_of_length_le (Nat.le_refl _)] at this
          exact this
        have hLl : L.length = g.wins.length := by have := congrArg List.length HLE.out; simpa using this
        obtain ⟨t, e1, rfl, hc1, htB, htl, hcell, hfz, hft⟩ := hgy.blockY (by omega)
        have HLL : Hid (L.length = g.wins.length) := hLl
        clear hLl
        obtain ⟨j0, j1, j2, _, _, _⟩ := id hT
        obtain ⟨i0, i1, i2, f0, f1, f2⟩ := id tR'
        go_wp2_with fail
        obtain ⟨w9, h9⟩ : ∃ w9, ((wr.setCell ⟨w.heap.size + 1, 0, none⟩ (.slice (some ⟨g3, 0, none⟩) g.ins.length c3)).setCell ⟨w.heap.size + 1, 1, none⟩ (.slice (some ⟨t, 0, none⟩) L.length e1)).setCell ⟨w.heap.size + 1, 2, none⟩ (.slice (some ⟨gm, 0, none⟩) g.shown.length cm) = w9 := ⟨_, rfl⟩
        have sp : Span (w.heap.size + 1) (w.heap.size + 2) wr w9 := by rw [← h9]; exact (((Span.refl _ _ _).setCell (by omega) (by omega) _ _).setCell (by omega) (by omega) _ _).setCell (by omega) (by omega) _ _
        have B9 : Below w.heap.size w w9 := by rw [← h9]; exact ((hbl.setCell (by simp only; omega) _).setCell (by simp only; omega) _).setCell (by simp only; omega) _
        have y0 : w9.cell? ⟨w.heap.size + 1, 0, none⟩ = some (.slice (some ⟨g3, 0, none⟩) g.ins.length c3) := by rw [← h9]; simp [go_sem, i0]
        have y1 : w9.cell? ⟨w.heap.size + 1, 1, none⟩ = some (.slice (some ⟨t, 0, none⟩) L.length e1) := by rw [← h9]; simp [go_sem, i1]
        have y2 : w9.cell? ⟨w.heap.size + 1, 2, none⟩ = some (.slice (some ⟨gm, 0, none⟩) g.shown.length cm) := by rw [← h9]; simp [go_sem, i2]
        have hfull : FullG wr (w.heap.size + 2) wr.heap.size g3 t (some ⟨gm, 0, none⟩) g.ins L g.shown :=
          ⟨hsb, ⟨htl, hcell, fun p hp => (hgy.at_ p hp).1, hft, fun p hp => by have := (hgy.at_ p hp).2; omega, hgy.dis.imp fun h => .inl h⟩, by omega, ⟨by omega, hsb.lt⟩, ⟨by omega, htl⟩, fun p hp => .inl (by have := (hgy.at_ p hp).2; omega), .inr ⟨gm, rfl, by omega, hom.lt, by omega, by omega, hom, fun p hp => .inl (by have := (hgy.at_ p hp).2; omega)⟩⟩
        have hz9 := sp.size
        have hfz9 : ∀ k, w9.frozen? ⟨t, k, none⟩ = false := fun k => by rw [World.frozen?_of_block (sp.block t htl (by omega))]; exact hfz k
        rw [h9]
        clear h9
        exact bodyPost_ret (v := .agg #[.slice (some ⟨g3, 0, none⟩) g.ins.length c3, .slice (some ⟨t, 0, none⟩) L.length e1, .slice (some ⟨gm, 0, none⟩) g.shown.length cm]) (by simp [results, Tryz.results43, go_sem, y0, y1, y2]) rfl ⟨⟨g3, t, c3, e1, gm, cm, L, rfl, (hfull.span sp (.inr (Nat.le_refl _))).widen (by omega) hz9, HLE.out, hfz9, by omega⟩, B9⟩

end Go.Proofs.YtpfhegengmlkmacGreatDoor
/- A window inside a row of windows: walks of slot, size, at, last at whatever place of a block. -/
namespace Go.Proofs.YtpfhegengmlkmacGreatDoor
open Go.RowKit Go.BigFrame

/-- From cell 'o' of block 'b' on lies a ring that begins at slot 0 and holds the items 'l', whose marks lie in W0. -/
def WinO (W0 w : World) (b o : Nat) (l : List ItemL) : Prop :=
  b < w.heap.size ∧ l.length ≤ 4 ∧ w.cell? ⟨b, o + 8, none⟩ = some (.int .i64 0) ∧ w.cell? ⟨b, o + 9, none⟩ = some (.int .i64 l.length) ∧
    ∀ k, (h : k < l.length) → w.cell? ⟨b, o + k * 2, none⟩ = some (.int .i64 l[k].1) ∧ ∃ v, w.cell? ⟨b, o + k * 2 + 1, none⟩ = some v ∧ IsSl W0 v l[k].2
theorem WinO.below {W0 w w' : World} {b o : Nat} {l : List ItemL} (h : WinO W0 w b o l) (hb : Below w.heap.size w w') : WinO W0 w' b o l := by
  obtain ⟨h0, h1, h2, h3, h4⟩ := h
  refine ⟨Nat.lt_of_lt_of_le h0 hb.size, h1, cell_on hb h0 h2, cell_on hb h0 h3, fun k hk => ?_⟩
  obtain ⟨e1, v, e2, e3⟩ := h4 k hk
  exact ⟨cell_on hb h0 e1, v, cell_on hb h0 e2, e3⟩

set_option maxHeartbeats 400000 in
theorem slot_off (w : World) (b o k : Nat) (c8 : w.cell? ⟨b, o + 8, none⟩ = some (.int .i64 0)) (hk : k < 4) :
    Calls Tryz.prog 171 #[.pointer (some ⟨b, o, none⟩), .int .i64 k] w fun e w' => e = .returned (.int .i64 (k : Int)) ∧ w' = w := by
  have HM : Hid ((k : Int) % 4 = (k : Int)) := by unfold Hid; omega
  go_enter Tryz.func171, Tryz.ntmps171
  go_wp2_with fail
  go_ret
  exact ⟨by rw [HM.out]; rfl, rfl⟩

set_option maxHeartbeats 400000 in
theorem size_off (W0 w : World) (b o : Nat) (l : List ItemL) (h : WinO W0 w b o l) :
    Calls Tryz.prog 167 #[.pointer (some ⟨b, o, none⟩)] w fun e w' => e = .returned (.int .i64 (l.length : Int)) ∧ w' = w := by
  have c9 := h.2.2.2.1
  go_enter Tryz.func167, Tryz.ntmps167
  go_wp2_with fail
  go_ret
  exact ⟨rfl, rfl⟩

set_option maxHeartbeats 400000 in
theorem at_val (w : World) (b o k : Nat) (x : Int) (sa : Option Addr) (n sc : Nat) (hwl : b < w.heap.size) (hk : k < 4) (c8 : w.cell? ⟨b, o + 8, none⟩ = some (.int .i64 0)) (c0 : w.cell? ⟨b, o + k * 2, none⟩ = some (.int .i64 x)) (c1 : w.cell? ⟨b, o + k * 2 + 1, none⟩ = some (.slice sa n sc)) :
    Calls Tryz.prog 142 #[.pointer (some ⟨b, o, none⟩), .int .i64 k] w fun e w' => e = .returned (.agg #[.int .i64 x, .slice sa n sc]) ∧ Below w.heap.size w w' := by
  have e8 := cell_on ((Below.refl w.heap.size w).alloc (Nat.le_refl _) (.cells #[.int .i64 0, .slice none 0 0] 44)) hwl c8
  have e0 := cell_on ((Below.refl w.heap.size w).alloc (Nat.le_refl _) (.cells #[.int .i64 0, .slice none 0 0] 44)) hwl c0
  have e1 := cell_on ((Below.refl w.heap.size w).alloc (Nat.le_refl _) (.cells #[.int .i64 0, .slice none 0 0] 44)) hwl c1
  have d0 : (w.alloc (.cells #[.int .i64 0, .slice none 0 0] 44)).cell? ⟨w.heap.size, 0, none⟩ = some (.int .i64 0) := box0 _ _ _ _
  have d1 : (w.alloc (.cells #[.int .i64 0, .slice none 0 0] 44)).cell? ⟨w.heap.size, 1, none⟩ = some (.slice none 0 0) := box1 _ _ _ _
  have f0 : (w.alloc (.cells #[.int .i64 0, .slice none 0 0] 44)).frozen? ⟨w.heap.size, 0, none⟩ = false := by simp [go_sem]
  have f1 : (w.alloc (.cells #[.int .i64 0, .slice none 0 0] 44)).frozen? ⟨w.heap.size, 1, none⟩ = false := by simp [go_sem]
  have hb0 : Below w.heap.size w (w.alloc (.cells #[.int .i64 0, .slice none 0 0] 44)) := (Below.refl w.heap.size w).alloc (Nat.le_refl _) _
  have hWl : b < (w.alloc (.cells #[.int .i64 0, .slice none 0 0] 44)).heap.size := Nat.lt_of_lt_of_le hwl hb0.size
  have hm1 : (0 : Int) ≤ (k : Int) := by omega
  have hm2 : (k : Int) < 4 := by omega
  go_enter Tryz.func142, Tryz.ntmps142
  go_wp2_with fail
  generalize hW : w.alloc (.cells #[.int .i64 0, .slice none 0 0] 44) = W at *
  clear hW
  have HS : ∀ u, Below W.heap.size W u → Calls Tryz.prog 171 #[.pointer (some ⟨b, o, none⟩), .int .i64 k] u fun e w' => e = .returned (.int .i64 (k : Int)) ∧ w' = u := fun u hu => slot_off u b o k (cell_on hu hWl e8) (by omega)
  clear c0 c1 c8 e8
  have hne : b ≠ w.heap.size := by omega
  go_region_held3 (fun w' => w'.cell? ⟨b, o + k * 2, none⟩ = some (.int .i64 x) ∧ w'.cell? ⟨b, o + k * 2 + 1, none⟩ = some (.slice sa n sc)) (first | exact ⟨e0, e1⟩ | (simp only [World.cell?_drew, set_far _ _ _ _ hne, e0, e1, and_self]; done))
    (first | (go_at_call 171; refine (HS _ (by first | exact Below.refl _ _ | exact (Below.refl _ _).drew | exact below_drewN (Below.refl _ _) _)).mono ?_; rintro e w1 ⟨rfl, rfl⟩))
  go_wp2_with fail
  exact bodyPost_ret (v := .agg #[.int .i64 x, .slice sa n sc]) (by simp [results, Tryz.results142, go_sem, d0, d1]) rfl ⟨rfl, ((hb0.setCell (Nat.le_refl _) _).setCell (Nat.le_refl _) _).drew⟩

theorem at_off (W0 w : World) (b o : Nat) (l : List ItemL) (k : Nat) (h : WinO W0 w b o l) (hk : k < l.length) :
    Calls Tryz.prog 142 #[.pointer (some ⟨b, o, none⟩), .int .i64 k] w fun e w' => (∃ v, e = .returned (.agg #[.int .i64 l[k].1, v]) ∧ IsSl W0 v l[k].2) ∧ Below w.heap.size w w' := by
  have h4 := h.2.1
  obtain ⟨c0, v, c1, hv⟩ := h.2.2.2.2 k hk
  obtain ⟨sa, sc, rfl, hcap, hrow⟩ := hv
  exact (at_val w b o k l[k].1 sa l[k].2.length sc h.1 (by omega) h.2.2.1 c0 c1).mono fun e w' ⟨he, hb⟩ => ⟨⟨_, he, sa, sc, rfl, hcap, hrow⟩, hb⟩

set_option maxHeartbeats 400000 in
theorem last_off (W0 w : World) (b o : Nat) (l : List ItemL) (h : WinO W0 w b o l) (h0 : 0 < l.length) :
    Calls Tryz.prog 168 #[.pointer (some ⟨b, o, none⟩)] w fun e w' => (∃ v, e = .returned (.agg #[.int .i64 (l[l.length - 1]'(by omega)).1, v]) ∧ IsSl W0 v (l[l.length - 1]'(by omega)).2) ∧ Below w.heap.size w w' := by
  have h4 := h.2.1
  have c9 := h.2.2.2.1
  have hwl := h.1
  have d0 : (w.alloc (.cells #[.int .i64 0, .slice none 0 0] 44)).cell? ⟨w.heap.size, 0, none⟩ = some (.int .i64 0) := box0 _ _ _ _
  have d1 : (w.alloc (.cells #[.int .i64 0, .slice none 0 0] 44)).cell? ⟨w.heap.size, 1, none⟩ = some (.slice none 0 0) := box1 _ _ _ _
  have f0 : (w.alloc (.cells #[.int .i64 0, .slice none 0 0] 44)).frozen? ⟨w.heap.size, 0, none⟩ = false := by simp [go_sem]
  have f1 : (w.alloc (.cells #[.int .i64 0, .slice none 0 0] 44)).frozen? ⟨w.heap.size, 1, none⟩ = false := by simp [go_sem]
  have hb0 : Below w.heap.size w (w.alloc (.cells #[.int .i64 0, .slice none 0 0] 44)) := (Below.refl w.heap.size w).alloc (Nat.le_refl _) _
  have hWl : w.heap.size < (w.alloc (.cells #[.int .i64 0, .slice none 0 0] 44)).heap.size := box_lt _ _
  have hkm : ((l.length : Int) - 1) = ((l.length - 1 : Nat) : Int) := by omega
  go_enter Tryz.func168, Tryz.ntmps168
  go_wp2_with fail
  generalize hW : w.alloc (.cells #[.int .i64 0, .slice none 0 0] 44) = W at *
  clear hW
  refine (at_off W0 W b o l (l.length - 1) (h.below hb0) (by omega)).mono ?_
  rintro e w1 ⟨⟨v, rfl, hv⟩, b1⟩
  obtain ⟨sa, sc, rfl, hcap, hrow⟩ := hv
  replace d0 := cell_on b1 hWl d0
  replace d1 := cell_on b1 hWl d1
  replace f0 := (b1.frozen (p := ⟨w.heap.size, 0, none⟩) hWl).trans f0
  replace f1 := (b1.frozen (p := ⟨w.heap.size, 1, none⟩) hWl).trans f1
  have B1 : Below w.heap.size w w1 := hb0.trans (b1.mono hb0.size)
  clear b1 hb0 c9
  go_wp2_with fail
  exact bodyPost_ret (v := .agg #[.int .i64 (l[l.length - 1]'(by omega)).1, .slice sa (l[l.length - 1]'(by omega)).2.length sc]) (by simp [results, Tryz.results168, go_sem, d0, d1]) rfl ⟨⟨_, rfl, sa, sc, rfl, hcap, hrow⟩, (B1.setCell (Nat.le_refl _) _).setCell (Nat.le_refl _) _⟩

end Go.Proofs.YtpfhegengmlkmacGreatDoor
