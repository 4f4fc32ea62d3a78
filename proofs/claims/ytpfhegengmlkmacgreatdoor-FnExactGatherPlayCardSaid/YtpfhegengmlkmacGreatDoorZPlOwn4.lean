/- Texts of this claim, one behind the other. -/
import Derived.Test.YtpfhegengmlkmacGreatDoorItG
import Derived.Test.YtpfhegengmlkmacGreatDoorItE
import Derived.Test.YtpfhegengmlkmacGreatDoorWc
import Derived.Test.YtpfhegengmlkmacGreatDoorMt
import Derived.Test.YtpfhegengmlkmacGreatDoorStrs
import Derived.Test.YtpfhegengmlkmacGreatDoorItK
import Derived.Test.YtpfhegengmlkmacGreatDoorLawM
import Derived.Test.YtpfhegengmlkmacGreatDoorLat
import Derived.OrdersHeld
import Derived.Test.YtpfhegengmlkmacGreatDoorZPlOwn3
/- Mathematics: all choices that agree, in the order of their places; the greatest of them. -/
namespace Go.Proofs.YtpfhegengmlkmacGreatDoor

/-- All choices that begin so, with the places in m windows more. -/
def allL (ws : List (List ItemL)) : Nat → List Int → List (List Int)
  | 0, ps => [ps]
  | m + 1, ps => (List.range (ws.getD ps.length []).length).flatMap fun i : Nat => allL ws m (ps ++ [(i : Int)])

theorem pkM_pre {ws : List (List ItemL)} {ps qs : List Int} {i : Nat} (h : i < ps.length) : pkM ws (ps ++ qs) i = pkM ws ps i := by
  unfold pkM
  have e : (ps ++ qs).getD i 0 = ps.getD i 0 := by simp [List.getD, List.getElem?_append_left h]
  rw [e]

theorem AgW.pre {ws : List (List ItemL)} {ps qs : List Int} (h : AgW ws (ps ++ qs)) : AgW ws ps := fun i k hk hi => by
  have h1 := h i k hk (by simp; omega)
  rw [pkM_pre hi, pkM_pre (by omega)] at h1
  exact h1

theorem allL_pre {ws : List (List ItemL)} : ∀ (m : Nat) (ps q : List Int), q ∈ allL ws m ps → ∃ r, q = ps ++ r ∧ r.length = m
  | 0, ps, q, h => by
    obtain rfl : q = ps := by simpa [allL] using h
    exact ⟨[], by simp, rfl⟩
  | m + 1, ps, q, h => by
    simp only [allL, List.mem_flatMap, List.mem_range] at h
    obtain ⟨i, _, h⟩ := h
    obtain ⟨r, rfl, hr⟩ := allL_pre m _ _ h
    exact ⟨(i : Int) :: r, by simp, by simp [hr]⟩

open Classical in
/-- Those of them that agree. -/
noncomputable def foundL (ws : List (List ItemL)) (m : Nat) (ps : List Int) : List (List Int) := (allL ws m ps).filter fun q => decide (AgW ws q)

theorem foundL_no {ws : List (List ItemL)} {m : Nat} {ps : List Int} (h : ¬ AgW ws ps) : foundL ws m ps = [] := by
  classical
  unfold foundL
  rw [List.filter_eq_nil_iff]
  intro q hq
  obtain ⟨r, rfl, _⟩ := allL_pre m ps q hq
  simp only [decide_eq_true_eq]
  exact fun h2 => h h2.pre

theorem foundL_zero {ws : List (List ItemL)} {ps : List Int} (h : AgW ws ps) : foundL ws 0 ps = [ps] := by
  classical
  unfold foundL
  simp [allL, h]

/-- The first k of the next window's places. -/
noncomputable def foundK (ws : List (List ItemL)) (m : Nat) (ps : List Int) (k : Nat) : List (List Int) := (List.range k).flatMap fun i : Nat => foundL ws m (ps ++ [(i : Int)])
theorem foundK_zero (ws : List (List ItemL)) (m : Nat) (ps : List Int) : foundK ws m ps 0 = [] := rfl
theorem foundK_succ (ws : List (List ItemL)) (m : Nat) (ps : List Int) (k : Nat) : foundK ws m ps (k + 1) = foundK ws m ps k ++ foundL ws m (ps ++ [(k : Int)]) := by
  unfold foundK
  simp [List.range_succ, List.flatMap_append]
theorem foundL_succ (ws : List (List ItemL)) (m : Nat) (ps : List Int) : foundL ws (m + 1) ps = foundK ws m ps (ws.getD ps.length []).length := by
  classical
  unfold foundL foundK allL foundL
  rw [List.filter_flatMap]

theorem mem_allL {ws : List (List ItemL)} : ∀ (m : Nat) (ps q : List Int), ps.length + m ≤ ws.length → InW ws ps → (q ∈ allL ws m ps ↔ ∃ r, q = ps ++ r ∧ r.length = m ∧ InW ws q)
  | 0, ps, q, hm, hin => by
    constructor
    · intro h
      obtain rfl : q = ps := by simpa [allL] using h
      exact ⟨[], by simp, rfl, hin⟩
    · rintro ⟨r, rfl, hr, _⟩
      obtain rfl := List.length_eq_zero_iff.1 hr
      simp [allL]
  | m + 1, ps, q, hm, hin => by
    have hin2 : ∀ i : Nat, i < (ws.getD ps.length []).length → InW ws (ps ++ [(i : Int)]) := fun i hi => by
      refine ⟨by simp; omega, fun j hj => ?_⟩
      simp only [List.length_append, List.length_singleton] at hj
      by_cases e : j < ps.length
      · rw [List.getElem_append_left e]
        exact hin.2 j e
      · obtain rfl : j = ps.length := by omega
        simp only [List.getElem_concat_length]
        omega
    simp only [allL, List.mem_flatMap, List.mem_range]
    constructor
    · rintro ⟨i, hi, h⟩
      obtain ⟨r, rfl, hr, h3⟩ := (mem_allL m _ q (by simp; omega) (hin2 i hi)).1 h
      exact ⟨(i : Int) :: r, by simp, by simp [hr], h3⟩
    · rintro ⟨r, rfl, hr, h3⟩
      match r, hr with
      | x :: r, hr =>
        have hx := h3.2 ps.length (by simp)
        have e : (ps ++ x :: r)[ps.length]'(by simp) = x := by simp
        rw [e] at hx
        refine ⟨x.toNat, by omega, ?_⟩
        have ex : ((x.toNat : Nat) : Int) = x := by omega
        refine (mem_allL m _ _ (by simp; omega) (hin2 x.toNat (by omega))).2 ⟨r, by rw [ex]; simp, by simpa using hr, h3⟩

theorem chP_iff {ws : List (List ItemL)} {q : List Int} : ChP ws q ↔ OkW ws ∧ q ∈ foundL ws ws.length [] := by
  classical
  unfold foundL
  rw [List.mem_filter, mem_allL ws.length [] q (by simp) ⟨by simp, fun i hi => by simp at hi⟩]
  simp only [decide_eq_true_eq, List.nil_append]
  constructor
  · rintro ⟨h1, h2, h3, h4⟩
    exact ⟨h1, ⟨q, rfl, h2, h3⟩, h4⟩
  · rintro ⟨h1, ⟨r, rfl, h2, h3⟩, h4⟩
    exact ⟨h1, h2, h3, h4⟩

/-- Place by place the greatest of some choices. -/
def topL (b : List Int) (L : List (List Int)) : List Int := L.foldl (List.zipWith max) b

theorem topL_ch {ws : List (List ItemL)} : ∀ (L : List (List Int)) (b : List Int), ChP ws b → (∀ q ∈ L, ChP ws q) → ChP ws (topL b L) ∧ (∀ i, (hb : i < b.length) → (ht : i < (topL b L).length) → b[i] ≤ (topL b L)[i]) ∧ ∀ q ∈ L, ∀ i, (hq : i < q.length) → (ht : i < (topL b L).length) → q[i] ≤ (topL b L)[i]
  | [], b, hb, _ => ⟨hb, fun i h1 h2 => Int.le_refl _, fun q hq => by simp at hq⟩
  | p :: L, b, hb, hL => by
    have hp := hL p (by simp)
    obtain ⟨h1, h2, h3⟩ := topL_ch L (List.zipWith max b p) (chP_max hb hp) (fun q hq => hL q (by simp [hq]))
    have lb := hb.2.1
    have lp := hp.2.1
    have lt := h1.2.1
    have e : topL b (p :: L) = topL (List.zipWith max b p) L := rfl
    rw [e]
    refine ⟨h1, fun i hi ht => ?_, fun q hq i hi ht => ?_⟩
    · have h4 := h2 i (by simp; omega) ht
      rw [List.getElem_zipWith] at h4
      omega
    · rcases List.mem_cons.1 hq with rfl | hq
      · have h4 := h2 i (by simp; omega) ht
        rw [List.getElem_zipWith] at h4
        omega
      · exact h3 q hq i hi ht

theorem topL_best {ws : List (List ItemL)} (hok : OkW ws) {b : List Int} {L : List (List Int)} (h : foundL ws ws.length [] = b :: L) : BestP ws (topL b (b :: L)) true := by
  have hall : ∀ q ∈ b :: L, ChP ws q := fun q hq => chP_iff.2 ⟨hok, by rw [h]; exact hq⟩
  obtain ⟨h1, _, h3⟩ := topL_ch (b :: L) b (hall b (by simp)) hall
  refine .inl ⟨rfl, h1, fun q hq i hi ho => ?_⟩
  have hm := (chP_iff.1 hq).2
  rw [h] at hm
  exact h3 q hm i hi ho

theorem none_best {ws : List (List ItemL)} (h : ¬ OkW ws ∨ foundL ws ws.length [] = []) : BestP ws [] false := by
  refine .inr ⟨rfl, rfl, fun q hq => ?_⟩
  obtain ⟨h1, h2⟩ := chP_iff.1 hq
  rcases h with h | h
  · exact h h1
  · rw [h] at h2
    simp at h2

end Go.Proofs.YtpfhegengmlkmacGreatDoor
/- Walks: l3All. -/
namespace Go.Proofs.YtpfhegengmlkmacGreatDoor
open Go.RowKit Go.BigFrame
set_option maxRecDepth 100000

theorem Tryz.infoZ1 : (Tryz.prog.info? 3).map (fun i => (i.zero, i.size, i.bytes)) = some (some (.int .i64 0), 1, 8) := by kernel_rfl
theorem Tryz.infoZ2 : (Tryz.prog.info? 37).map (fun i => (i.zero, i.size, i.bytes)) = some (some (.slice none 0 0), 1, 24) := by kernel_rfl

theorem allL_len {ws : List (List ItemL)} (h4 : ∀ k, (h : k < ws.length) → ws[k].length ≤ 4) : ∀ (m : Nat) (ps : List Int), (allL ws m ps).length ≤ 4 ^ m
  | 0, ps => by simp [allL]
  | m + 1, ps => by
    simp only [allL, List.length_flatMap]
    have hn : (ws.getD ps.length []).length ≤ 4 := by
      by_cases h : ps.length < ws.length
      · rw [getD_at h]; exact h4 _ h
      · simp [List.getD, List.getElem?_eq_none (by omega : ws.length ≤ ps.length)]
    have hs : ∀ n : Nat, ((List.range n).map fun i : Nat => (allL ws m (ps ++ [(i : Int)])).length).sum ≤ n * 4 ^ m := fun n => by
      induction n with
      | zero => simp
      | succ n ih =>
        rw [List.range_succ, List.map_append, List.sum_append]
        have := allL_len h4 m (ps ++ [(n : Int)])
        simp only [List.map_cons, List.map_nil, List.sum_cons, List.sum_nil]
        rw [Nat.succ_mul]
        omega
    have h1 := hs (ws.getD ps.length []).length
    have h2 : (ws.getD ps.length []).length * 4 ^ m ≤ 4 * 4 ^ m := Nat.mul_le_mul_right _ hn
    have h3 : 4 ^ (m + 1) = 4 * 4 ^ m := by rw [Nat.pow_succ]; omega
    omega
theorem foundL_len {ws : List (List ItemL)} (h4 : ∀ k, (h : k < ws.length) → ws[k].length ≤ 4) (m : Nat) (ps : List Int) : (foundL ws m ps).length ≤ 4 ^ m := by
  unfold foundL
  exact Nat.le_trans (List.length_filter_le _ _) (allL_len h4 m ps)
theorem foundK_len {ws : List (List ItemL)} (h4 : ∀ k, (h : k < ws.length) → ws[k].length ≤ 4) (m : Nat) (ps : List Int) (k : Nat) : (foundK ws m ps k).length ≤ k * 4 ^ m := by
  induction k with
  | zero => simp [foundK]
  | succ k ih =>
    rw [foundK_succ, List.length_append, Nat.succ_mul]
    have := foundL_len h4 m (ps ++ [(k : Int)])
    omega

theorem RowZ.grown {w w' : World} {a : Option Addr} {ps : List Int} {r : Option Nat} (h : RowZ w a ps) (hg : w.grownBy w' r) (hne : ∀ b o, a = some ⟨b, o, none⟩ → some b ≠ r) : RowZ w' a ps := fun k hk => by
  obtain ⟨b, o, e, h1, h2⟩ := h k hk
  exact ⟨b, o, e, Nat.lt_of_lt_of_le h1 hg.size, grown_cell hg (hne b o e) h2⟩
theorem GathN.rowz {w : World} {B g cap n : Nat} {l : List Int} (h : GathN w B (.slice (some ⟨g, 0, none⟩) n cap) l) (hn : n = l.length) (h0 : 0 < l.length) : RowZ w (some ⟨g, 0, none⟩) l := fun k hk => by
  subst hn
  obtain ⟨g', cap', e, _, h2, _, h3⟩ := h.shape h0
  obtain ⟨rfl, rfl⟩ : g = g' ∧ cap = cap' := by simpa using e
  exact ⟨g, 0, rfl, h2, by rw [Nat.zero_add]; exact h3 k hk⟩
theorem rowz_news {w : World} {b o : Nat} {l : List Int} (h : RowZ w (some ⟨b, o, none⟩) l) : ∀ j u, (l.map fun x => Value.int .i64 x)[j]? = some u → w.cell? ((⟨b, o, none⟩ : Addr).add j) = some u := by
  intro j u hj
  have hjl : j < l.length := by have := (List.getElem?_eq_some_iff.1 hj).1; simpa using this
  have e : (⟨b, o, none⟩ : Addr).add j = ⟨b, o + j, none⟩ := by unfold Addr.add; by_cases h : j = 0 <;> simp [h]
  obtain ⟨b', o', ha, _, c0⟩ := h j hjl
  obtain ⟨rfl, rfl⟩ : b = b' ∧ o = o' := by simpa using ha
  rw [e, c0]
  simpa [hjl] using hj

theorem in_snoc {ws : List (List ItemL)} {ps : List Int} (hin : InW ws ps) (hp : ps.length < ws.length) {i : Nat} (hi : i < ws[ps.length].length) : InW ws (ps ++ [(i : Int)]) := by
  refine ⟨by simp; omega, fun j hj => ?_⟩
  simp only [List.length_append, List.length_singleton] at hj
  by_cases e : j < ps.length
  · rw [List.getElem_append_left e]
    exact hin.2 j e
  · obtain rfl : j = ps.length := by omega
    rw [getD_at hp]
    simp only [List.getElem_concat_length]
    omega

/-- append of nil onto a literal of none. -/
theorem wpList_append_nil {P : Program} (w : World) {ops : Array Oper} {rest : List Oper} {o : Oper} {a : Act} {Q : Exit → Act → World → Prop} (hgd : o.guard = none) (s x : Operand) (t : TypeId)
    (ho : o.op = .call { callee := .builtin .append, args := #[s, x], argTypes := #[t, t] }) (e : TypeId) (i : TypeInfo) (ht : P.underlying t = some (.slice e)) (hi : P.info? e = some i) (va : Addr) (c : Nat) (hs : a.eval s = .slice (some va) 0 0) (hx : a.eval x = .slice none 0 c)
    (h : wpList P ops Q rest (a.put o.dst (.slice (some va) 0 0)) w) : wpList P ops Q (o :: rest) a w := by
  refine wpList_plain hgd fun K hK => ?_
  have hr : (Builtin.append_ #[t, t] o.type #[.slice (some va) 0 0, .slice none 0 c]).run P w = .ok (.slice (some va) 0 0) w := by
    simp [Builtin.append_, run_underlying ht, sizeOf, typeInfo, hi, Builtin.lenOf, Builtin.firstCells, storeCells]
  unfold Oper.wp execOp
  simp only [ho, resolve, invoke, builtin, Sem.run_bind, Sem.run_pure, Result.andThen_ok, List.map_toArray, List.map_cons, List.map_nil, hs, hx, hr]
  exact hK _ _ h

/-- append of all numbers of a slice onto a literal of none. -/
theorem wpList_append_nums {ops : Array Oper} {rest : List Oper} {o : Oper} {a : Act} {w : World} {Q : Exit → Act → World → Prop} (hgd : o.guard = none) (s x : Operand)
    (ho : o.op = .call { callee := .builtin .append, args := #[s, x], argTypes := #[37, 37] }) (base e0 cap : Nat) (a' : Option Addr) (l : List Int) (hs : a.eval s = .slice (some ⟨e0, 0, none⟩) 0 0) (he : w.heap[e0]? = some (.cells #[] 3 (0, 0))) (hb : base ≤ e0)
    (hx : a.eval x = .slice a' l.length cap) (hr : RowZ w a' l) (h0 : l = [] → a' = none) (hl : l.length ≤ 1048576)
    (h : ∀ g' cap' w', GathN w' base (.slice (some ⟨g', 0, none⟩) l.length cap') l → w.grownBy w' (some e0) → e0 ≤ g' → wpList Tryz.prog ops Q rest (a.put o.dst (.slice (some ⟨g', 0, none⟩) l.length cap')) w') : wpList Tryz.prog ops Q (o :: rest) a w := by
  obtain ⟨i0, hi, hz0, hz1, hz2⟩ := info_parts Tryz.infoZ1
  have hlt : e0 < w.heap.size := (Array.getElem?_eq_some_iff.1 he).1
  have hown : w.ownsRow base 3 1 (.slice (some ⟨e0, 0, none⟩) 0 0) 0 [] := ⟨rfl, .inr ⟨e0, 0, #[], rfl, hb, he, Nat.le_refl _, Nat.zero_le _, rfl, rfl⟩⟩
  by_cases hn : l = []
  · subst hn
    obtain rfl := h0 rfl
    exact wpList_append_nil w hgd s x 37 ho 3 i0 Tryz.underlying37 hi _ cap hs hx (h e0 0 w hown ⟨rfl, rfl, rfl, Nat.le_refl _, fun _ _ _ => rfl⟩ (Nat.le_refl _))
  · have hpos : 0 < l.length := List.length_pos_iff.2 hn
    obtain ⟨b, off, rfl, _⟩ := hr 0 hpos
    refine wpList_append_lies w hgd s x 37 ho base 3 i0 (.int .i64 0) 1 8 Tryz.underlying37 hi hz0 hz1 hz2 rfl (by decide) _ _ _ hs hown ⟨b, off, none⟩ l.length cap (l.map fun x => .int .i64 x) hx (by simp) (rowz_news hr) (by simp [Value.oneCell']) hpos (by unfold maxLen; omega) (by omega) (Nat.le_trans hb (Nat.le_of_lt hlt)) _ rfl ?_
    intro g' cap' w' h1 h2 h3 _
    simp only [Nat.zero_add, List.nil_append] at h1 ⊢
    exact h g' cap' w' h1 h2 (by
      rcases h3 with h3 | h3
      · simp [Value.ownBlock] at h3; omega
      · omega)

set_option maxHeartbeats 3200000 in
theorem l3All_any (W0 : World) (B : Nat) (a : Option Addr) (cap : Nat) (ws : List (List ItemL)) (hW0 : W0.heap.size ≤ B) (hf : FitW ws) (hr : RowW W0 a ws) (h6 : ws.length ≤ 6) (h4 : ∀ k, (h : k < ws.length) → ws[k].length ≤ 4) :
    ∀ (m : Nat) (a' : Option Addr) (cap' : Nat) (ps : List Int) (v : Value) (L : List (List Int × Nat × Nat)) (w : World), Below W0.heap.size W0 w → RowZ w a' ps → (ps = [] → a' = none) → (∀ b o, a' = some ⟨b, o, none⟩ → some b ≠ v.ownBlock) → InW ws ps → ps.length + m = ws.length → GathU w B v L → B ≤ w.heap.size → L.length + 4 ^ m ≤ 100000 →
    Calls Tryz.prog 83 #[.slice a ws.length cap, .slice a' ps.length cap', v] w fun e w' => (∃ v' L', e = .returned v' ∧ GathU w' B v' L' ∧ L'.map (·.1) = L.map (·.1) ++ foundL ws m ps ∧ (v'.ownBlock = v.ownBlock ∨ ∃ g, v'.ownBlock = some g ∧ w.heap.size ≤ g)) ∧ w.grownBy w' v.ownBlock := by
  intro m
  induction m with
  | zero =>
    intro a' cap' ps v L w hb hr' h0 hne hin hm hg hB hlen
    obtain ⟨i2, hi2, hy0, hy1, hy2⟩ := info_parts Tryz.infoZ2
    have hl := hf.1
    unfold maxLen at hl
    simp only [Nat.pow_zero] at hlen
    have hps : ps.length ≤ 6 := by omega
    have hpm : ps.length ≤ maxLen := by unfold maxLen; omega
    go_enter Tryz.func83, Tryz.ntmps83
    go_wp2_with fail
    refine (l3Agrees_any a cap ws a' cap' ps _ hf (hr.below hb) hpm hr' hin).mono ?_
    rintro e w1 ⟨⟨r, rfl, hr1⟩, b1⟩
    have HR : Hid (r = true ↔ AgW ws ps) := hr1
    clear hr1
    cases r
    · have HF : Hid (foundL ws 0 ps = []) := foundL_no (fun h => by simpa using HR.out.2 h)
      clear HR
      go_wp2_with fail
      go_ret
      exact ⟨⟨v, L, rfl, hg.keep b1, by rw [HF.out]; simp, .inl rfl⟩, grown_below b1 _⟩
    · have HF : Hid (foundL ws 0 ps = [ps]) := foundL_zero (HR.out.1 rfl)
      have heq : ((ps.length : Int) == (ws.length : Int)) = true := by rw [beq_iff_eq]; omega
      have hg1 := hg.keep b1
      have hr1 := hr'.below b1
      have z1 := b1.size
      clear HR hg hr'
      go_wp2_with (first
        | (at_builtin; refine wpList_append_nums rfl _ _ rfl B w1.heap.size cap' a' ps rfl (heap_alloc_new w1 _) (by omega) rfl (hr1.below ((Below.refl _ _).alloc (Nat.le_refl _) _)) h0 (by omega) ?_; intro g2 c2 w2 hn2 hgr2 hge2;
           have b2 : Below w1.heap.size w1 w2 := ((Below.refl _ _).alloc (Nat.le_refl _) _).grown hgr2 (by simp) (fun k e => by cases e; exact Nat.le_refl _);
           have hg2 := hg1.keep b2; have z2 := b2.size;
           have hbx : Below w2.heap.size w2 (w2.alloc (.cells #[.slice (some ⟨g2, 0, none⟩) ps.length c2] 37)) := (Below.refl _ _).alloc (Nat.le_refl _) _)
        | (at_builtin; refine wpList_append_own_at _ rfl _ _ 139 rfl B 37 i2 (.slice none 0 0) 1 24 Tryz.underlying139 hi2 hy0 hy1 hy2 rfl (by decide) _ _ _ rfl (own_keep hg2.1 hbx) ⟨w2.heap.size, 0, none⟩ 1 1 [.slice (some ⟨g2, 0, none⟩) ps.length c2] rfl rfl (cell_one_new _ _ _) (by simp [Value.oneCell']) (by unfold maxLen; omega) (by omega) (by simp; omega) ?_; intro v3 w3 hown3 hgr3 _ hloc3))
      go_ret
      have hall : Below w.heap.size w (w2.alloc (.cells #[.slice (some ⟨g2, 0, none⟩) ps.length c2] 37)) := (b1.trans (b2.mono z1)).alloc (by omega) _
      refine ⟨⟨v3, L ++ [(ps, g2, c2)], rfl, GathU.snoc (hg2.keep hbx) (own_keep hn2 hbx) (by decide) hown3 hgr3, by rw [HF.out]; simp, ?_⟩, grown_then (grown_below hall _) hgr3 (.inl rfl)⟩
      rcases hloc3 with e | e
      · exact .inl e
      · exact .inr ⟨_, e, by simp; omega⟩
  | succ m ih =>
    intro a' cap' ps v L w hb hr' h0 hne hin hm hg hB hlen
    obtain ⟨i1, hi1, hz0, hz1, hz2⟩ := info_parts Tryz.infoZ1
    have hl := hf.1
    unfold maxLen at hl
    have h41 : 4 ^ (m + 1) = 4 * 4 ^ m := by rw [Nat.pow_succ]; omega
    have hps : ps.length ≤ 6 := by omega
    have hpw : ps.length < ws.length := by omega
    have hpm : ps.length ≤ maxLen := by unfold maxLen; omega
    go_enter Tryz.func83, Tryz.ntmps83
    go_wp2_with fail
    refine (l3Agrees_any a cap ws a' cap' ps _ hf (hr.below hb) hpm hr' hin).mono ?_
    rintro e w1 ⟨⟨r, rfl, hr1⟩, b1⟩
    have HR : Hid (r = true ↔ AgW ws ps) := hr1
    clear hr1
    cases r
    · have HF : Hid (foundL ws (m + 1) ps = []) := foundL_no (fun h => by simpa using HR.out.2 h)
      clear HR
      go_wp2_with fail
      go_ret
      exact ⟨⟨v, L, rfl, hg.keep b1, by rw [HF.out]; simp, .inl rfl⟩, grown_below b1 _⟩
    · have HF : Hid (foundL ws (m + 1) ps = foundK ws m ps ws[ps.length].length) := by
        rw [foundL_succ, getD_at hpw]
        trivial
      have heq : ((ps.length : Int) == (ws.length : Int)) = false := by rw [beq_eq_false_iff_ne]; omega
      have hg1 := hg.keep b1
      have hr1 := hr'.below b1
      have z1 := b1.size
      have hz0' := hb.size
      have hb1 : Below W0.heap.size W0 w1 := hb.trans (b1.mono hz0')
      obtain ⟨bw, ow, rfl, gw, sw, tw, ew, _, _⟩ := hr ps.length hpw
      have ew1 := cell_on hb1 gw ew
      have k0 : (0 : Int) ≤ (ps.length : Int) := by omega
      have k1 : (ps.length : Int) < (ws.length : Int) := by omega
      have hw4 := h4 ps.length hpw
      have hvB := own_from hg.1
      clear HR hg hr'
      go_wp2_with fail
      go_loopw [2, 8] (fun u i wr => ∃ (k : Nat) (L' : List (List Int × Nat × Nat)), k ≤ ws[ps.length].length ∧ i = .int .i64 k ∧ GathU wr B u L' ∧ Hid (L'.map (·.1) = L.map (·.1) ++ foundK ws m ps k) ∧ (u.ownBlock = v.ownBlock ∨ ∃ g, u.ownBlock = some g ∧ w.heap.size ≤ g) ∧ w.grownBy wr v.ownBlock ∧ RowZ wr a' ps ∧ (∀ b o, a' = some ⟨b, o, none⟩ → some b ≠ u.ownBlock)) (fun _ i _ => ws[ps.length].length - (intOf i).toNat)
      case atStart => exact ⟨0, L, Nat.zero_le _, rfl, hg1, by unfold Hid; rw [foundK_zero]; simp, .inl rfl, grown_below b1 _, hr1, hne⟩
      case round =>
        obtain ⟨k, L', hk, rfl, hgU, HL, hloc, hgw, hrz, hnu⟩ := hrel
        clear hg1 hr1 ew1 b1 z1 hb1 hne
        by_cases hlt : k < ws[ps.length].length
        · have j0 : (0 : Int) ≤ (k : Int) := by omega
          have j1 : (k : Int) < (ws[ps.length].length : Int) := by omega
          have zr := hgw.size
          go_wp2_with (first
            | (at_builtin; refine wpList_append_nums rfl _ _ rfl B wr.heap.size cap' a' ps rfl (heap_alloc_new wr _) (by omega) rfl (hrz.below ((Below.refl _ _).alloc (Nat.le_refl _) _)) h0 (by omega) ?_; intro g2 c2 w2 hn2 hgr2 hge2;
               have b2 : Below wr.heap.size wr w2 := ((Below.refl _ _).alloc (Nat.le_refl _) _).grown hgr2 (by simp) (fun k e => by cases e; exact Nat.le_refl _);
               have z2 := b2.size;
               have hbx : Below w2.heap.size w2 (w2.alloc (.cells #[.int .i64 k] 3)) := (Below.refl _ _).alloc (Nat.le_refl _) _)
            | (at_builtin; refine wpList_append_lies _ rfl _ _ 37 rfl B 3 i1 (.int .i64 0) 1 8 Tryz.underlying37 hi1 hz0 hz1 hz2 rfl (by decide) _ _ _ rfl (own_keep hn2 hbx) ⟨w2.heap.size, 0, none⟩ 1 1 [.int .i64 k] rfl rfl (cell_one_new _ _ _) (by simp [Value.oneCell']) (by decide) (by unfold maxLen; omega) (by omega) (by simp; omega) _ rfl ?_; intro g3 c3 w3 hown3 hgr3 _ hlt3))
          have b3 : Below wr.heap.size wr w3 := (b2.alloc z2 _).grown hgr3 (by simp; omega) (fun k e => by have e2 : some g2 = some k := e; cases e2; omega)
          have z3 := b3.size
          have hn3 : GathN w3 B (.slice (some ⟨g3, 0, none⟩) (ps.length + 1) c3) (ps ++ [(k : Int)]) := by
            unfold GathN
            rw [List.length_append, List.map_append]
            exact hown3
          have hg3 := hgU.keep b3
          have hbr : Below W0.heap.size W0 wr := hb.grown hgw hz0' (fun k e => Nat.le_trans hW0 (hvB k e))
          have hne3 : ∀ b o, (some ⟨g3, 0, none⟩ : Option Addr) = some ⟨b, o, none⟩ → some b ≠ u2.ownBlock := fun b o e q => by
            obtain ⟨rfl, rfl⟩ : g3 = b ∧ 0 = o := by simpa using e
            rcases own_types hn3 hg3.1 (by decide) with h | h
            · simp [Value.ownBlock] at h
            · exact h (by simpa [Value.ownBlock] using q)
          have hLl : L'.length + 4 ^ m ≤ 100000 := by
            have h1 := congrArg List.length HL.out
            have h2 := foundK_len h4 m ps k
            have h3 : k * 4 ^ m ≤ 3 * 4 ^ m := Nat.mul_le_mul_right _ (by omega)
            simp only [List.length_map, List.length_append] at h1
            omega
          have hih := ih (some ⟨g3, 0, none⟩) c3 (ps ++ [(k : Int)]) u2 L' w3 (hbr.trans (b3.mono hbr.size)) (hn3.rowz (by simp) (by simp)) (fun h => by simp at h) hne3 (in_snoc hin hpw hlt) (by simp; omega) hg3 (by omega) hLl
          rw [List.length_append, List.length_singleton] at hih
          refine hih.mono ?_
          rintro e w4 ⟨⟨v4, L4, rfl, hg4, HL4, hloc4⟩, hgr4⟩
          have HLn : Hid (L4.map (·.1) = L.map (·.1) ++ foundK ws m ps (k + 1)) := by
            unfold Hid
            rw [HL4, HL.out, foundK_succ, List.append_assoc]
          have hgw4 : w.grownBy w4 v.ownBlock := grown_then (grown_then hgw (grown_below b3 _) (.inl rfl)) hgr4 hloc
          have hloc' : v4.ownBlock = v.ownBlock ∨ ∃ g, v4.ownBlock = some g ∧ w.heap.size ≤ g := by
            rcases hloc4 with e | ⟨g, e, hle⟩
            · rw [e]; exact hloc
            · exact .inr ⟨g, e, by omega⟩
          have hrz4 : RowZ w4 a' ps := (hrz.below b3).grown hgr4 hnu
          have hnu4 : ∀ b o, a' = some ⟨b, o, none⟩ → some b ≠ v4.ownBlock := fun b o e q => by
            by_cases hp0 : ps = []
            · have := h0 hp0
              rw [this] at e
              simp at e
            · obtain ⟨b', o', e', hl', _⟩ := hrz 0 (List.length_pos_iff.2 hp0)
              rw [e] at e'
              obtain ⟨rfl, rfl⟩ : b = b' ∧ o = o' := by simpa using e'
              rcases hloc4 with e4 | ⟨g, e4, hle⟩
              · exact hnu b o e (q.trans e4)
              · rw [e4] at q
                cases q
                omega
          clear hih HL HL4 hgr4 hg3 hn3 hown3 hgr3 hn2 hgr2 hgU
          go_wp2_with fail
          exact ⟨⟨k + 1, L4, by omega, by go_num, hg4, HLn, hloc', hgw4, hrz4, hnu4⟩, by simp [intOf]; omega⟩
        · have HL2 : Hid (L'.map (·.1) = L.map (·.1) ++ foundL ws (m + 1) ps) := by
            unfold Hid
            rw [HL.out, HF.out]
            congr 2
            omega
          go_wp2_with fail
          go_ret
          exact ⟨⟨_, rfl, L', hgU, HL2.out, hloc⟩, hgw⟩

end Go.Proofs.YtpfhegengmlkmacGreatDoor
/- Walk: spec.ChoiceBest. -/
namespace Go.Proofs.YtpfhegengmlkmacGreatDoor
open Go.RowKit Go.BigFrame
set_option maxRecDepth 100000

/-- The slice at address 'a' holds lists of numbers, each in a slice of its own. -/
def RowU (w : World) (a : Option Addr) (F : List (List Int)) : Prop := ∀ i, (h : i < F.length) → ∃ b o, a = some ⟨b, o, none⟩ ∧ b < w.heap.size ∧ ∃ s c, w.cell? ⟨b, o + i, none⟩ = some (.slice s F[i].length c) ∧ RowZ w s F[i]
theorem RowU.below {w w' : World} {a : Option Addr} {F : List (List Int)} (h : RowU w a F) (hb : Below w.heap.size w w') : RowU w' a F := fun i hi => by
  obtain ⟨b, o, e, h1, s, c, h2, h3⟩ := h i hi
  exact ⟨b, o, e, Nat.lt_of_lt_of_le h1 hb.size, s, c, cell_on hb h1 h2, h3.below hb⟩
theorem GathU.row {w : World} {B : Nat} {v : Value} {L : List (List Int × Nat × Nat)} (h : GathU w B v L) (h0 : ∀ p ∈ L, 0 < p.1.length) : ∃ a cap, v = .slice a L.length cap ∧ RowU w a (L.map (·.1)) := by
  rcases h.1.2 with ⟨rfl, e0⟩ | ⟨g, cap, cur, rfl, hB, hh, hn, _⟩
  · exact ⟨none, 0, by rw [e0], fun k hk => by rw [List.length_map] at hk; omega⟩
  · have hlt : g < w.heap.size := (Array.getElem?_eq_some_iff.1 hh).1
    refine ⟨_, cap, rfl, fun k hk => ⟨g, 0, rfl, hlt, ?_⟩⟩
    rw [List.length_map] at hk
    have hm := List.getElem_mem hk
    refine ⟨some ⟨L[k].2.1, 0, none⟩, L[k].2.2, ?_, by simpa using (h.2 L[k] hm).rowz rfl (h0 _ hm)⟩
    rw [Nat.zero_add, World.ownsRow.cellAt h.1 _ (by omega)]
    simp [hk]
/-- Block 'g' begins with the numbers 'l'. -/
def NumB (w : World) (g : Nat) (l : List Int) : Prop := ∃ m f, w.rowIs g 3 m f ∧ l.length ≤ m ∧ ∀ j, (h : j < l.length) → f j = .int .i64 l[j]
theorem NumB.cell {w : World} {g : Nat} {l : List Int} (h : NumB w g l) {j : Nat} (hj : j < l.length) : w.cell? ⟨g, j, none⟩ = some (.int .i64 l[j]) := by
  obtain ⟨m, f, h, hm, hf⟩ := h
  rw [h.cell (by omega), hf j hj]
theorem NumB.frozen {w : World} {g : Nat} {l : List Int} (h : NumB w g l) (j : Nat) : w.frozen? ⟨g, j, none⟩ = false := by
  obtain ⟨m, f, h, _⟩ := h
  exact h.frozen j
theorem NumB.lt {w : World} {g : Nat} {l : List Int} (h : NumB w g l) : g < w.heap.size := by
  obtain ⟨m, f, h, _⟩ := h
  exact h.lt
theorem NumB.set {w : World} {g : Nat} {l : List Int} (h : NumB w g l) (j : Nat) (x : Int) : NumB (w.setCell ⟨g, j, none⟩ (.int .i64 x)) g (l.set j x) := by
  obtain ⟨m, f, h, hm, hf⟩ := h
  refine ⟨m, _, h.set _ _, by rw [List.length_set]; exact hm, fun i hi => ?_⟩
  rw [List.length_set] at hi
  by_cases e : i = j
  · subst e; simp
  · simp only [if_neg e]
    rw [hf i hi, List.getElem_set_ne (fun h => e h.symm)]
theorem NumB.below {w w' : World} {g : Nat} {l : List Int} (h : NumB w g l) (hb : Below w.heap.size w w') : NumB w' g l := by
  have hlt := h.lt
  obtain ⟨m, f, h, hf⟩ := h
  exact ⟨m, f, h.of_block (hb.block g hlt), hf⟩
theorem NumB.row {w : World} {g : Nat} {l : List Int} (h : NumB w g l) : RowZ w (some ⟨g, 0, none⟩) l := fun k hk => ⟨g, 0, rfl, h.lt, by rw [Nat.zero_add]; exact h.cell hk⟩
theorem GathN.block {w : World} {B g n c : Nat} {l : List Int} (h : GathN w B (.slice (some ⟨g, 0, none⟩) n c) l) : B ≤ g ∧ NumB w g l := by
  rcases h.2 with ⟨e, _⟩ | ⟨g', cap, cur, e, hB, hh, hn, hc, hs, ht⟩
  · cases e
  · obtain rfl : g = g' := by simpa using (Value.slice.inj e).1
    refine ⟨hB, cap * 1, fun i => (cur[i]?).getD undef, ⟨cur, hh, hs, fun i hi => ?_⟩, by omega, fun k hk => ?_⟩
    · have hi' : i < cur.size := by omega
      simp [Array.getElem?_eq_getElem hi']
    · have h2 : (l.map fun x => Value.int .i64 x)[k]? = some (.int .i64 l[k]) := by simp [hk]
      rw [← ht, List.getElem?_take_of_lt (by simp; omega)] at h2
      simp only [Array.getElem?_toList] at h2
      simp only [h2]
      rfl

/-- The first k places have been held against q. -/
def MixP (cur q : List Int) (k : Nat) (l : List Int) : Prop := l.length = cur.length ∧ ∀ j, (h : j < l.length) → (hc : j < cur.length) → (hq : j < q.length) → l[j] = if j < k then max cur[j] q[j] else cur[j]
theorem mix_start (cur q : List Int) : MixP cur q 0 cur := ⟨rfl, fun j h hc hq => by simp⟩
theorem MixP.up {cur q l : List Int} {k : Nat} (h : MixP cur q k l) (hk : k < l.length) (hq : k < q.length) (hlt : l[k] < q[k]) : MixP cur q (k + 1) (l.set k q[k]) := by
  refine ⟨by rw [List.length_set]; exact h.1, fun j hj0 hc hq' => ?_⟩
  have hj : j < l.length := by simpa using hj0
  by_cases e : j = k
  · subst e
    have h2 := h.2 j hj hc hq'
    rw [if_neg (by omega)] at h2
    rw [List.getElem_set_self, if_pos (by omega)]
    omega
  · have h2 := h.2 j hj hc hq'
    rw [List.getElem_set_ne (fun h => e h.symm), h2]
    by_cases e2 : j < k
    · rw [if_pos e2, if_pos (by omega)]
    · rw [if_neg e2, if_neg (by omega)]
theorem MixP.same {cur q l : List Int} {k : Nat} (h : MixP cur q k l) (hk : k < l.length) (hq : k < q.length) (hlt : ¬ l[k] < q[k]) : MixP cur q (k + 1) l := by
  refine ⟨h.1, fun j hj hc hq' => ?_⟩
  have h2 := h.2 j hj hc hq'
  by_cases e : j = k
  · subst e
    rw [if_neg (by omega)] at h2
    rw [if_pos (by omega)]
    omega
  · rw [h2]
    by_cases e2 : j < k
    · rw [if_pos e2, if_pos (by omega)]
    · rw [if_neg e2, if_neg (by omega)]
theorem MixP.whole {cur q l : List Int} {k : Nat} (h : MixP cur q k l) (hq : q.length = cur.length) (hk : cur.length ≤ k) : l = List.zipWith max cur q := by
  apply List.ext_getElem
  · rw [h.1, List.length_zipWith, hq, Nat.min_self]
  · intro j h1 h2
    have hl := h.1
    rw [List.getElem_zipWith, h.2 j h1 (by omega) (by omega), if_pos (by omega)]
theorem topL_take {b : List Int} {F : List (List Int)} {i : Nat} (h : i < F.length) : topL b (F.take (i + 1)) = List.zipWith max (topL b (F.take i)) F[i] := by
  rw [List.take_succ_eq_append_getElem h]
  unfold topL
  rw [List.foldl_append]
  rfl

set_option maxHeartbeats 1600000 in
theorem specCB_any (a : Option Addr) (cap : Nat) (ws : List (List ItemL)) (w : World) (hf : FitW ws) (hr : RowW w a ws) :
    Calls Tryz.prog 44 #[.slice a ws.length cap] w fun e w' => ((∃ g c out, e = .returned (.tuple #[.slice (some ⟨g, 0, none⟩) out.length c, .bool true]) ∧ BestP ws out true ∧ w.heap.size ≤ g ∧ NumB w' g out) ∨ (e = .returned (.tuple #[.slice none 0 0, .bool false]) ∧ BestP ws [] false)) ∧ Below w.heap.size w w' := by
  go_enter Tryz.func44, Tryz.ntmps44
  go_wp2_with fail
  refine (l3Ok_any a cap ws _ hf hr).mono ?_
  rintro e w1 ⟨⟨r, rfl, hr1⟩, b1⟩
  have HR : Hid (r = true ↔ OkW ws) := hr1
  clear hr1
  cases r with
  | false =>
    have HN : Hid (BestP ws [] false) := none_best (.inl fun h => by have := HR.out.2 h; simp at this)
    go_wp2_with fail
    exact bodyPost_ret (v := .tuple #[.slice none 0 0, .bool false]) (by simp [results, Tryz.results44, go_sem]) rfl ⟨.inr ⟨rfl, HN.out⟩, b1⟩
  | true =>
    have HOK : Hid (OkW ws) := HR.out.1 rfl
    clear HR
    have h6 := HOK.out.2.1
    have h1l := HOK.out.1
    go_wp2_with fail
    have hpow : 4 ^ ws.length ≤ 4096 := Nat.le_trans (Nat.pow_le_pow_right (by omega) h6) (by decide)
    refine (l3All_any w w1.heap.size a cap ws b1.size hf hr h6 (fun k hk => (HOK.out.2.2 k hk).1) ws.length none 0 [] (.slice none 0 0) [] w1 b1 (fun k hk => absurd hk (Nat.not_lt_zero k)) (fun _ => rfl) (fun b o h => by cases h) ⟨by simp, fun i hi => by simp at hi⟩ (by simp) (gathU_none _ _) (Nat.le_refl _) (by simp; omega)).mono ?_
    rintro e w2 ⟨⟨v2, L, rfl, hg2, hL, _⟩, hgr⟩
    have hb2 : Below w1.heap.size w1 w2 := (Below.refl _ _).grown hgr (Nat.le_refl _) (fun k hk => by cases hk)
    have B2 : Below w.heap.size w w2 := b1.trans (hb2.mono b1.size)
    simp only [List.map_nil, List.nil_append] at hL
    have hlens : ∀ q ∈ foundL ws ws.length [], q.length = ws.length := fun q hq => (chP_iff.2 ⟨HOK.out, hq⟩).2.1
    have hcnt : (foundL ws ws.length []).length ≤ 4096 := Nat.le_trans (foundL_len (fun k hk => (HOK.out.2.2 k hk).1) ws.length []) hpow
    obtain ⟨va, vc, rfl, hru⟩ := hg2.row (fun p hp => by
      have := hlens p.1 (by rw [← hL]; exact List.mem_map.2 ⟨p, hp, rfl⟩)
      omega)
    rw [hL] at hru
    have hLl : L.length = (foundL ws ws.length []).length := by rw [← hL, List.length_map]
    rw [hLl]
    clear hg2 hgr hLl hL
    generalize hF : foundL ws ws.length [] = F at *
    have HF : Hid (foundL ws ws.length [] = F) := hF
    clear hF
    by_cases h0 : F.length = 0
    · have HN : Hid (BestP ws [] false) := none_best (.inr (by rw [HF.out]; exact List.length_eq_zero_iff.1 h0))
      have h0' : ((F.length : Int) == 0) = true := by rw [beq_iff_eq]; omega
      go_wp2_with fail
      exact bodyPost_ret (v := .tuple #[.slice none 0 0, .bool false]) (by simp [results, Tryz.results44, go_sem]) rfl ⟨.inr ⟨rfl, HN.out⟩, B2⟩
    have h0' : ((F.length : Int) == 0) = false := by rw [beq_eq_false_iff_ne]; omega
    obtain ⟨bu, ou, rfl, hbu, s0, c0, hu0, hz0⟩ := hru 0 (by omega)
    have i0 : (0 : Int) < (F.length : Int) := by omega
    have hl0 : F[0].length = ws.length := hlens _ (List.getElem_mem (by omega))
    have HL0 : Hid (F[0].length = ws.length) := hl0
    have hl6 : F[0].length ≤ 6 := by omega
    have hnn : F[0] = [] → s0 = none := fun h => by rw [h] at hl0; simp at hl0; omega
    have HLENS : Hid (∀ q ∈ F, q.length = ws.length) := hlens
    clear hl0 hlens
    rw [Nat.add_zero] at hu0
    have hbx : Below w2.heap.size w2 (w2.alloc (.cells #[] 3)) := (Below.refl _ _).alloc (Nat.le_refl _) _
    have hu0' := cell_on hbx hbu hu0
    have hz0' := hz0.below hbx
    go_wp2_with (first | (at_builtin; refine wpList_append_nums rfl _ _ rfl w2.heap.size w2.heap.size c0 s0 F[0] rfl (heap_alloc_new w2 _) (Nat.le_refl _) rfl hz0' hnn (by omega) ?_; intro g3 c3 w3 hn3 hgr3 hge3))
    obtain ⟨_, hnb⟩ := hn3.block
    have hb3 : Below w2.heap.size w2 w3 := hbx.grown hgr3 (by simp) (fun k hk => by cases hk; exact Nat.le_refl _)
    clear hn3 hgr3 hu0 hu0' hz0 hz0' hbx
    have B3 : Below w.heap.size w w3 := B2.trans (hb3.mono B2.size)
    go_loopw [6] (fun i wr => ∃ (k : Nat) (l : List Int), k ≤ F.length ∧ i = .int .i64 k ∧ l.length = F[0].length ∧ Hid (l = topL F[0] (F.take k)) ∧ NumB wr g3 l ∧ Below w2.heap.size w2 wr) (fun i _ => F.length - (intOf i).toNat)
    case atStart => exact ⟨0, F[0], Nat.zero_le _, rfl, rfl, rfl, hnb, hb3⟩
    case round =>
      clear hnb
      obtain ⟨k, l, hk, rfl, hll, HT, hnb, hbl⟩ := hrel
      by_cases hlt : k < F.length
      · have hqlen : F[k].length = F[0].length := by rw [HLENS.out _ (List.getElem_mem hlt), HL0.out]
        have HQL : Hid (F[k].length = F[0].length) := hqlen
        have hq6 : F[k].length ≤ 6 := by omega
        have HLL : Hid (l.length = F[0].length) := hll
        have k0 : (0 : Int) ≤ (k : Int) := by omega
        have k1 : (k : Int) < (F.length : Int) := by omega
        clear hqlen hll
        go_wp2_with fail
        go_loopw [7] (fun i2 wr2 => ∃ (j : Nat) (m : List Int), j ≤ F[0].length ∧ i2 = .int .i64 j ∧ Hid (MixP l F[k] j m) ∧ NumB wr2 g3 m ∧ Below w2.heap.size w2 wr2) (fun i2 _ => F[0].length - (intOf i2).toNat)
        case atStart => exact ⟨0, l, Nat.zero_le _, rfl, mix_start l F[k], hnb, hbl⟩
        case round =>
          clear hnb hbl
          obtain ⟨j, m, hj, rfl, HM, hnb, hbl⟩ := hrel
          by_cases hjlt : j < F[0].length
          · have hml : m.length = F[0].length := by rw [HM.out.1, HLL.out]
            have hjm : j < m.length := by omega
            have hjq : j < F[k].length := by rw [HQL.out]; omega
            obtain ⟨b5, o5, e5, hb5, s5, c5, f5, r5⟩ := hru.below hbl k hlt
            cases e5
            obtain ⟨b6, o6, rfl, hb6, f6⟩ := r5 j hjq
            have f7 := hnb.cell hjm
            have z7 := hnb.frozen j
            have j0 : (0 : Int) ≤ (j : Int) := by omega
            have j1 : (j : Int) < (F[0].length : Int) := by omega
            have j2 : (j : Int) < (F[k].length : Int) := by omega
            clear hml
            by_cases hgt : m[j] < F[k][j]
            · have HX : Hid (MixP l F[k] (j + 1) (m.set j F[k][j])) := HM.out.up hjm hjq hgt
              have hgt' : decide (m[j] < F[k][j]) = true := decide_eq_true hgt
              go_wp2_with fail
              go_quiet (fail)
              go_wp2_with fail
              have hset := (hnb.below (below_drewN (Below.refl _ _) nq)).set j F[k][j]
              exact ⟨⟨j + 1, _, by omega, by go_num, HX, hset, (below_drewN hbl _).setCell (by simp only; omega) _⟩, by simp [intOf]; omega⟩
            · have HX : Hid (MixP l F[k] (j + 1) m) := HM.out.same hjm hjq hgt
              have hgt' : decide (m[j] < F[k][j]) = false := decide_eq_false hgt
              go_wp2_with fail
              go_quiet (fail)
              go_wp2_with fail
              exact ⟨⟨j + 1, m, by omega, by go_num, HX, hnb.below (below_drewN (Below.refl _ _) _), below_drewN hbl _⟩, by simp [intOf]; omega⟩
          · have HX : Hid (m = topL F[0] (F.take (k + 1))) := by
              unfold Hid
              rw [topL_take hlt, ← HT.out]
              exact HM.out.whole (by rw [HQL.out, HLL.out]) (by rw [HLL.out]; omega)
            have hml : m.length = F[0].length := by rw [HM.out.1, HLL.out]
            go_wp2_with fail
            exact ⟨⟨k + 1, m, by omega, by go_num, hml, HX, hnb, hbl⟩, by simp [intOf]; omega⟩
      · have HB : Hid (BestP ws l true) := by
          unfold Hid
          rw [HT.out, List.take_of_length_le (by omega)]
          have e : foundL ws ws.length [] = F[0] :: F.tail := by rw [HF.out]; cases F with
            | nil => simp at h0
            | cons x y => rfl
          have h := topL_best HOK.out e
          rwa [← e, HF.out] at h
        go_wp2_with fail
        exact bodyPost_ret (v := .tuple #[.slice (some ⟨g3, 0, none⟩) l.length c3, .bool true]) (by simp [results, Tryz.results44, go_sem, hll]) rfl ⟨.inl ⟨g3, c3, l, rfl, HB.out, Nat.le_trans B2.size hge3, hnb⟩, B2.trans (hbl.mono B2.size)⟩

end Go.Proofs.YtpfhegengmlkmacGreatDoor
/- Numbers of an answer: marked, and held against the marks. -/
namespace Go.Proofs.YtpfhegengmlkmacGreatDoor
open Go.RowKit Go.BigFrame

/-- The marks of numbers. -/
def numsZ (k : Int) (n : Nat) : List Int := (List.range n).map fun (i : Nat) => k + (i : Int)
theorem numsZ_len (k : Int) (n : Nat) : (numsZ k n).length = n := by simp [numsZ]
theorem numsZ_at (k : Int) (n j : Nat) (h : j < (numsZ k n).length) : (numsZ k n)[j] = k + (j : Int) := by simp [numsZ]

theorem NumB.but {w w' : World} {g b : Nat} {l : List Int} (h : NumB w g l) (hb : But b w w') (hne : g ≠ b) : NumB w' g l := by
  have hlt := h.lt
  obtain ⟨m, f, h, hf⟩ := h
  exact ⟨m, f, h.of_block (hb.block g hlt hne), hf⟩
theorem NumB.span {w w' : World} {g lo hi : Nat} {l : List Int} (h : NumB w g l) (hs : Span lo hi w w') (hd : g < lo ∨ hi ≤ g) : NumB w' g l := by
  have hlt := h.lt
  obtain ⟨m, f, h, hf⟩ := h
  exact ⟨m, f, h.of_block (hs.block g hlt hd), hf⟩
/-- The numbers of an answer lie in a block between two. -/
def SafeZ (w : World) (lo hi : Nat) (a : Option Addr) (l : List Int) : Prop := l = [] ∨ ∃ g, a = some ⟨g, 0, none⟩ ∧ lo ≤ g ∧ g < hi ∧ NumB w g l
theorem SafeZ.row {w : World} {lo hi : Nat} {a : Option Addr} {l : List Int} (h : SafeZ w lo hi a l) : RowZ w a l := by
  rcases h with rfl | ⟨g, rfl, _, _, hn⟩
  · exact fun k hk => absurd hk (Nat.not_lt_zero k)
  · exact hn.row
theorem SafeZ.below {w w' : World} {lo hi : Nat} {a : Option Addr} {l : List Int} (h : SafeZ w lo hi a l) (hb : Below w.heap.size w w') : SafeZ w' lo hi a l := by
  rcases h with rfl | ⟨g, rfl, h1, h2, hn⟩
  · exact .inl rfl
  · exact .inr ⟨g, rfl, h1, h2, hn.below hb⟩
theorem SafeZ.span {w w' : World} {lo hi lo' hi' : Nat} {a : Option Addr} {l : List Int} (h : SafeZ w lo hi a l) (hs : Span lo' hi' w w') (hd : hi ≤ lo' ∨ hi' ≤ lo) : SafeZ w' lo hi a l := by
  rcases h with rfl | ⟨g, rfl, h1, h2, hn⟩
  · exact .inl rfl
  · exact .inr ⟨g, rfl, h1, h2, hn.span hs (by omega)⟩

/-- The first j numbers marked. -/
def mixN (k : Int) (l : List Int) (j : Nat) : List Int := (numsZ k j) ++ l.drop j
theorem mixN_len (k : Int) (l : List Int) {j : Nat} (h : j ≤ l.length) : (mixN k l j).length = l.length := by simp [mixN, numsZ]; omega
theorem mixN_step (k : Int) (l : List Int) {j : Nat} (h : j < l.length) : (mixN k l j).set j (k + (j : Int)) = mixN k l (j + 1) := by
  apply List.ext_getElem
  · rw [List.length_set, mixN_len k l (by omega), mixN_len k l (by omega)]
  · intro i h1 h2
    have hl : i < l.length := by rw [List.length_set, mixN_len k l (by omega)] at h1; exact h1
    rw [List.getElem_set]
    simp only [mixN, List.getElem_append, numsZ_len]
    by_cases e : j = i
    · subst e
      simp [numsZ]
    · simp only [if_neg e]
      by_cases e2 : i < j
      · simp only [e2, ↓reduceDIte, show i < j + 1 by omega]
        simp [numsZ]
      · simp only [e2, ↓reduceDIte, show ¬ i < j + 1 by omega, List.getElem_drop]
        congr 1
        omega

set_option maxHeartbeats 800000 in
theorem markIntS_num (g cap : Nat) (l : List Int) (k : Int) (w : World) (hn : l.length ≤ 1048576) (hk0 : 0 ≤ k) (hk1 : k ≤ 10000000) (ho : NumB w g l) :
    Calls Tryz.prog 33 #[.slice (some ⟨g, 0, none⟩) l.length cap, .int .i64 k] w fun e w' => e = .returned (.int .i64 (k + (l.length : Int))) ∧ NumB w' g (numsZ k l.length) ∧ But g w w' := by
  go_enter Tryz.func33, Tryz.ntmps33
  go_wp2_with fail
  go_loopw [1, 5] (fun kk i wr => ∃ j : Nat, j ≤ l.length ∧ i = .int .i64 j ∧ kk = .int .i64 (k + (j : Int)) ∧ NumB wr g (mixN k l j) ∧ But g w wr) (fun _ i _ => l.length - (intOf i).toNat)
  case atStart => exact ⟨0, Nat.zero_le _, rfl, by simp, by simpa [mixN, numsZ] using ho, But.refl _ _⟩
  case round =>
    obtain ⟨j, hj, rfl, rfl, hnb, hb⟩ := hrel
    by_cases hlt : j < l.length
    · have hv0 := hnb.cell (j := j) (by rw [mixN_len k l (by omega)]; omega)
      have hz0 := hnb.frozen j
      have hset := hnb.set j (k + (j : Int))
      rw [mixN_step k l hlt] at hset
      have j0 : (0 : Int) ≤ (j : Int) := by omega
      have j1 : (j : Int) < (l.length : Int) := by omega
      go_wp2_with fail
      exact ⟨⟨j + 1, by omega, by go_num, by congr 1; omega, hset, hb.setCell _ _⟩, by simp [intOf]; omega⟩
    · obtain rfl : j = l.length := by omega
      have he : mixN k l l.length = numsZ k l.length := by simp [mixN]
      rw [he] at hnb
      go_wp2_with fail
      go_ret
      exact ⟨rfl, hnb, hb⟩

set_option maxHeartbeats 800000 in
theorem markIntS_none (a : Option Addr) (cap : Nat) (k : Int) (w : World) :
    Calls Tryz.prog 33 #[.slice a 0 cap, .int .i64 k] w fun e w' => e = .returned (.int .i64 k) ∧ w' = w := by
  go_enter Tryz.func33, Tryz.ntmps33
  go_wp2_with fail
  go_loopw [1, 5] (fun kk i wr => i = .int .i64 0 ∧ kk = .int .i64 k ∧ wr = w) (fun _ _ _ => 0)
  case atStart => exact ⟨rfl, rfl, rfl⟩
  case round =>
    obtain ⟨rfl, rfl, rfl⟩ := hrel
    go_wp2_with fail
    go_ret
    exact ⟨rfl, rfl⟩
theorem markSafeZ_any (a : Option Addr) (cap lo hi : Nat) (l : List Int) (k : Int) (w : World) (hn : l.length ≤ 1048576) (hk0 : 0 ≤ k) (hk1 : k ≤ 10000000) (hs : SafeZ w lo hi a l) :
    Calls Tryz.prog 33 #[.slice a l.length cap, .int .i64 k] w fun e w' => e = .returned (.int .i64 (k + (l.length : Int))) ∧ SafeZ w' lo hi a (numsZ k l.length) ∧ Span lo hi w w' := by
  rcases hs with rfl | ⟨g, rfl, h1, h2, ho⟩
  · exact (markIntS_none a cap k w).mono fun e w' ⟨he, hw⟩ => ⟨by rw [he]; simp, .inl rfl, by rw [hw]; exact Span.refl _ _ _⟩
  · exact (markIntS_num g cap l k w hn hk0 hk1 ho).mono fun e w' ⟨he, ho', hb⟩ => ⟨he, .inr ⟨g, rfl, h1, h2, ho'⟩, hb.span h1 h2⟩

set_option maxHeartbeats 800000 in
theorem heldIntS_any (a : Option Addr) (cap n : Nat) (k : Int) (w : World) (hn : n ≤ 1048576) (hk0 : 0 ≤ k) (hk1 : k ≤ 10000000) (hr : RowZ w a (numsZ k n)) :
    Calls Tryz.prog 35 #[.slice a n cap, .int .i64 k] w fun e w' => e = .returned (.int .i64 (k + (n : Int))) ∧ Below w.heap.size w w' := by
  go_enter Tryz.func35, Tryz.ntmps35
  go_wp2_with fail
  go_loopw [1, 5] (fun kk i wr => ∃ j : Nat, j ≤ n ∧ i = .int .i64 j ∧ kk = .int .i64 (k + (j : Int)) ∧ Below w.heap.size w wr) (fun _ i _ => n - (intOf i).toNat)
  case atStart => exact ⟨0, Nat.zero_le _, rfl, by simp, Below.refl _ _⟩
  case round =>
    obtain ⟨j, hj, rfl, rfl, hb⟩ := hrel
    by_cases hlt : j < n
    · obtain ⟨b, o, rfl, hblt, c0⟩ := hr.below hb j (by rw [numsZ_len]; exact hlt)
      rw [numsZ_at] at c0
      have j0 : (0 : Int) ≤ (j : Int) := by omega
      have j1 : (j : Int) < (n : Int) := by omega
      go_wp2_with fail
      exact ⟨⟨j + 1, by omega, by go_num, by congr 1; omega, hb⟩, by simp [intOf]; omega⟩
    · obtain rfl : j = n := by omega
      go_wp2_with fail
      go_ret
      exact ⟨rfl, hb⟩

end Go.Proofs.YtpfhegengmlkmacGreatDoor
/- The walk of the law FnExactWindowLast. -/
namespace Go.Proofs.YtpfhegengmlkmacGreatDoor
open Go.RowKit Go.BigFrame
set_option maxRecDepth 100000

theorem Span.of_below {lo hi : Nat} {w w' : World} (h : Below w.heap.size w w') : Span lo hi w w' := ⟨h.os, h.tape, h.output, h.size, fun k hk _ => h.block k hk⟩
theorem Span.cell {lo hi b o : Nat} {w w' : World} {v : Value} (h : Span lo hi w w') (hc : w.cell? ⟨b, o, none⟩ = some v) (hd : b < lo ∨ hi ≤ b) : w'.cell? ⟨b, o, none⟩ = some v :=
  (World.cell?_of_block (h.block b (block_lt_of_cell hc) hd)).trans hc

set_option maxHeartbeats 800000 in
theorem markItem_any (x : Int) (a : Option Addr) (cap lo hi : Nat) (m : List (ByteArray × Int)) (k : Int) (w : World) (hn : m.length ≤ 1048576) (hk0 : 0 ≤ k) (hk1 : k ≤ 10000000) (hs : Safe w lo hi a m) :
    Calls Tryz.prog 60 #[.agg #[.int .i64 x, .slice a m.length cap], .int .i64 k] w fun e w' => e = .returned (.int .i64 (k + 2 * (m.length : Int))) ∧ Safe w' lo hi a (marked k m.length) ∧ Span lo hi w w' := by
  have hb0 : Below w.heap.size w (w.alloc (.cells #[.int .i64 x, .slice a m.length cap] 44)) := (Below.refl _ _).alloc (Nat.le_refl _) _
  go_enter Tryz.func60, Tryz.ntmps60
  go_wp2_with fail
  refine (markSafe_any a cap lo hi m k _ hn hk0 hk1 (hs.below hb0)).mono ?_
  rintro e w1 ⟨rfl, hs1, sp1⟩
  have HS : Hid (Safe w1 lo hi a (marked k m.length) ∧ Span lo hi w w1) := ⟨hs1, (Span.of_below hb0).trans sp1⟩
  clear hs1 sp1
  go_wp2_with fail
  go_ret
  exact ⟨rfl, HS.out⟩

theorem isL_len {l : List ItemL} {x : Int} {m : List (ByteArray × Int)} {ok : Bool} (h : IsL l x m ok) : m.length ≤ 12 := by
  by_cases hp : WinP l ∧ 0 < l.length
  · have e := congrArg Prod.snd (h.1 hp).2
    simp only at e
    rw [e]
    exact (hp.1.2.1 (l.length - 1) (by omega)).1.1
  · rw [(h.2 hp).2.2]; simp

end Go.Proofs.YtpfhegengmlkmacGreatDoor
/- Walks: markStringS. -/
namespace Go.Proofs.YtpfhegengmlkmacGreatDoor
open Go.RowKit Go.BigFrame

set_option maxHeartbeats 800000 in
theorem markStringS_any (b cap : Nat) (l : List ByteArray) (k : Int) (w : World) (hn : l.length ≤ 1048576) (hk0 : 0 ≤ k) (hk1 : k ≤ 10000000) (ho : PartS w b l l.length) :
    Calls Tryz.prog 30 #[.slice (some ⟨b, 0, none⟩) l.length cap, .int .i64 k] w fun e w' => e = .returned (.int .i64 (k + (l.length : Int))) ∧ But b w w' := by
  obtain ⟨f, hf, _⟩ := ho
  have hp : ∃ f, w.rowIs b 9 l.length f := ⟨f, hf⟩
  clear hf
  go_enter Tryz.func30, Tryz.ntmps30
  go_wp2_with fail
  go_loopw [1, 5] (fun kk i wr => ∃ j : Nat, j ≤ l.length ∧ i = .int .i64 j ∧ kk = .int .i64 (k + (j : Int)) ∧ (∃ f, wr.rowIs b 9 l.length f) ∧ But b w wr) (fun _ i _ => l.length - (intOf i).toNat)
  case atStart => exact ⟨0, Nat.zero_le _, rfl, by simp, hp, But.refl _ _⟩
  case round =>
    obtain ⟨j, hj, rfl, rfl, ⟨f, hpj⟩, hb⟩ := hrel
    by_cases hlt : j < l.length
    · have hpl := hpj.lt
      go_wp2_with (first | (go_at_call 66; refine (markText_any _ _ (by omega)).mono ?_; rintro e w1 ⟨rfl, hb1⟩; have hp1 := hpj.of_block (hb1.block b hpl); have hv0 := hp1.cell hlt; have hz0 := hp1.frozen j))
      exact ⟨⟨j + 1, by omega, by go_num, by congr 1; omega, ⟨_, hp1.set _ _⟩, (hb.trans (But.of_below hb1)).setCell _ _⟩, by simp [intOf]; omega⟩
    · obtain rfl : j = l.length := by omega
      go_wp2_with fail
      go_ret
      exact ⟨rfl, hb⟩

end Go.Proofs.YtpfhegengmlkmacGreatDoor
/- Walks: szFeed, toFeed, eqFeed, markFeed; eqShow, markShow, heldShow; szGather with sums; markGather of a copy. -/
namespace Go.Proofs.YtpfhegengmlkmacGreatDoor
open Go.RowKit Go.BigFrame
set_option maxRecDepth 100000

set_option maxHeartbeats 800000 in
theorem szFeed_any (i x : Int) (a : Option Addr) (c : Nat) (l : List (ByteArray × Int)) (left : Int) (w : World) (hr : Row w a l) (hf : FitM l) (h0 : 0 ≤ left) (h1 : left ≤ 1048576) :
    Calls Tryz.prog 7 #[.agg #[.int .i64 i, .int .i64 x, .slice a l.length c], .int .i64 left] w fun e w' => ∃ r : Int, e = .returned (.int .i64 r) ∧ -1 ≤ r ∧ r ≤ left ∧ (0 ≤ r → SmallM left l) ∧ Below w.heap.size w w' := by
  have hb0 : Below w.heap.size w (w.alloc (.cells #[.int .i64 i, .int .i64 x, .slice a l.length c] 30)) := (Below.refl _ _).alloc (Nat.le_refl _) _
  go_enter Tryz.func7, Tryz.ntmps7
  go_wp2_with fail
  refine (szItem_any x a c l left _ (hr.below hb0) hf h0 h1).mono ?_
  rintro e w1 ⟨r, rfl, hr0, hr1, hr2, b1⟩
  have B1 : Below w.heap.size w w1 := hb0.trans (b1.mono hb0.size)
  have HS : Hid (0 ≤ r → SmallM left l) := hr2
  clear hr2
  by_cases hneg : r < 0
  · go_wp2_with fail
    go_ret
    exact ⟨-1, rfl, by omega, by omega, fun h => by omega, B1⟩
  · go_wp2_with fail
    go_ret
    exact ⟨r, rfl, hr0, hr1, HS.out, B1⟩

set_option maxHeartbeats 1600000 in
theorem toFeed_any (i x : Int) (a : Option Addr) (c : Nat) (l : List (ByteArray × Int)) (w : World) (hr : Row w a l) (hl : l.length ≤ 1048576) :
    Calls Tryz.prog 10 #[.agg #[.int .i64 i, .int .i64 x, .slice a l.length c]] w fun e w' => (∃ b, w.heap.size ≤ b ∧ e = .returned (.agg #[.int .i64 i, .int .i64 x, .slice (some ⟨b, 0, none⟩) l.length l.length]) ∧ Own w' b l) ∧ Below w.heap.size w w' := by
  obtain ⟨W0, hW0⟩ : ∃ W0, ((w.alloc (.cells #[.int .i64 i, .int .i64 x, .slice a l.length c] 30)).alloc (.cells #[.int .i64 0, .int .i64 0, .slice none 0 0] 46)).alloc (.cells #[.int .i64 i, .int .i64 0, .slice none 0 0] 46) = W0 := ⟨_, rfl⟩
  have hz : W0.heap.size = w.heap.size + 3 := by rw [← hW0]; simp
  have hb0 : Below w.heap.size w W0 := by rw [← hW0]; exact (((Below.refl _ _).alloc (Nat.le_refl _) _).alloc (by simp) _).alloc (by simp; omega) _
  have tR : Tri W0 (w.heap.size + 1) (.int .i64 0) (.int .i64 0) (.slice none 0 0) := by rw [← hW0]; constructor <;> simp [go_sem]
  have tO : Tri W0 (w.heap.size + 1 + 1) (.int .i64 i) (.int .i64 0) (.slice none 0 0) := by rw [← hW0]; constructor <;> simp [go_sem]
  have HW : Hid ((((w.alloc (.cells #[.int .i64 i, .int .i64 x, .slice a l.length c] 30)).alloc (.cells #[.int .i64 0, .int .i64 0, .slice none 0 0] 46)).alloc (.cells #[.int .i64 i, .int .i64 0, .slice none 0 0] 46)) = W0) := hW0
  clear hW0
  go_enter Tryz.func10, Tryz.ntmps10
  go_wp2_with fail
  rw [HW.out]
  clear HW
  refine (toItem_any x a c l _ (hr.below hb0) hl).mono ?_
  rintro e w1 ⟨⟨b, hb, rfl, ho⟩, b1⟩
  have z1 := b1.size
  have B1 : Below w.heap.size w w1 := hb0.trans (b1.mono hb0.size)
  replace tR := tR.keep b1
  replace tO := tO.keep b1
  obtain ⟨o0, o1, o2, g0, g1, g2⟩ := id tO
  obtain ⟨r0, r1, r2, f0, f1, f2⟩ := id tR
  have ne1 : w.heap.size + 1 ≠ w.heap.size + 1 + 1 := by omega
  have ne2 : w.heap.size + 1 + 1 ≠ w.heap.size + 1 := by omega
  go_wp2_with fail
  obtain ⟨w9, h9⟩ : ∃ w9, ((((w1.setCell ⟨w.heap.size + 1 + 1, 1, none⟩ (.int .i64 x)).setCell ⟨w.heap.size + 1 + 1, 2, none⟩ (.slice (some ⟨b, 0, none⟩) l.length l.length)).setCell ⟨w.heap.size + 1, 0, none⟩ (.int .i64 i)).setCell ⟨w.heap.size + 1, 1, none⟩ (.int .i64 x)).setCell ⟨w.heap.size + 1, 2, none⟩ (.slice (some ⟨b, 0, none⟩) l.length l.length) = w9 := ⟨_, rfl⟩
  have sp : Span (w.heap.size + 1) (w.heap.size + 3) w1 w9 := by rw [← h9]; exact (((((Span.refl _ _ _).setCell (by omega) (by omega) _ _).setCell (by omega) (by omega) _ _).setCell (by omega) (by omega) _ _).setCell (by omega) (by omega) _ _).setCell (by omega) (by omega) _ _
  have n0 : w9.cell? ⟨w.heap.size + 1, 0, none⟩ = some (.int .i64 i) := by rw [← h9]; simp [go_sem, r0]
  have n1 : w9.cell? ⟨w.heap.size + 1, 1, none⟩ = some (.int .i64 x) := by rw [← h9]; simp [go_sem, r1]
  have n2 : w9.cell? ⟨w.heap.size + 1, 2, none⟩ = some (.slice (some ⟨b, 0, none⟩) l.length l.length) := by rw [← h9]; simp [go_sem, r2]
  have B9 : Below w.heap.size w w9 := B1.trans (sp.below (by omega) B1.size)
  have ho9 : Own w9 b l := by obtain ⟨mm, f, h7, hf⟩ := id ho; exact ⟨mm, f, h7.of_block (sp.block b ho.lt (by omega)), hf⟩
  rw [h9]
  clear h9
  exact bodyPost_ret (v := .agg #[.int .i64 i, .int .i64 x, .slice (some ⟨b, 0, none⟩) l.length l.length]) (by simp [results, Tryz.results10, go_sem, n0, n1, n2]) rfl ⟨⟨b, by omega, rfl, ho9⟩, B9⟩

set_option maxHeartbeats 800000 in
theorem eqFeed_same (i x : Int) (a1 a2 : Option Addr) (c1 c2 : Nat) (l : List (ByteArray × Int)) (w : World) (hl : l.length ≤ maxLen) (h1 : Row w a1 l) (h2 : Row w a2 l) :
    Calls Tryz.prog 14 #[.agg #[.int .i64 i, .int .i64 x, .slice a1 l.length c1], .agg #[.int .i64 i, .int .i64 x, .slice a2 l.length c2]] w fun e w' => e = .returned (.bool true) ∧ Below w.heap.size w w' := by
  have hb0 : Below w.heap.size w ((w.alloc (.cells #[.int .i64 i, .int .i64 x, .slice a1 l.length c1] 46)).alloc (.cells #[.int .i64 i, .int .i64 x, .slice a2 l.length c2] 46)) := ((Below.refl _ _).alloc (Nat.le_refl _) _).alloc (by simp) _
  go_enter Tryz.func14, Tryz.ntmps14
  go_wp2_with fail
  refine (eqItem_same x a1 a2 c1 c2 l _ hl (h1.below hb0) (h2.below hb0)).mono ?_
  rintro e w1 ⟨rfl, b1⟩
  go_wp2_with fail
  go_ret
  exact ⟨rfl, hb0.trans (b1.mono hb0.size)⟩

set_option maxHeartbeats 800000 in
theorem markFeed_any (i x : Int) (a : Option Addr) (cap lo hi : Nat) (m : List (ByteArray × Int)) (k : Int) (w : World) (hn : m.length ≤ 1048576) (hk0 : 0 ≤ k) (hk1 : k ≤ 10000000) (hs : Safe w lo hi a m) :
    Calls Tryz.prog 16 #[.agg #[.int .i64 i, .int .i64 x, .slice a m.length cap], .int .i64 k] w fun e w' => e = .returned (.int .i64 (k + 2 * (m.length : Int))) ∧ Span lo hi w w' := by
  have hb0 : Below w.heap.size w (w.alloc (.cells #[.int .i64 i, .int .i64 x, .slice a m.length cap] 46)) := (Below.refl _ _).alloc (Nat.le_refl _) _
  go_enter Tryz.func16, Tryz.ntmps16
  go_wp2_with fail
  generalize w.alloc (.cells #[.int .i64 i, .int .i64 x, .slice a m.length cap] 46) = W0 at *
  refine (markItem_any x a cap lo hi m k _ hn hk0 hk1 (hs.below hb0)).mono ?_
  rintro e w1 ⟨rfl, _, s1⟩
  go_wp2_with fail
  go_ret
  have sA : Span lo hi w W0 := ⟨hb0.os, hb0.tape, hb0.output, hb0.size, fun i hi _ => hb0.block i hi⟩
  exact ⟨rfl, sA.trans s1⟩

set_option maxHeartbeats 800000 in
theorem eqShow_same (a1 a2 b1 b2 : Option Addr) (c1 c2 d1 d2 : Nat) (sv : List Int) (ss : List (ByteArray × Int)) (w : World) (hv : sv.length ≤ maxLen) (hl : ss.length ≤ maxLen) (h1 : RowZ w a1 sv) (h2 : Row w a2 ss) (h3 : RowZ w b1 sv) (h4 : Row w b2 ss) :
    Calls Tryz.prog 13 #[.agg #[.slice a1 sv.length c1, .slice a2 ss.length c2], .agg #[.slice b1 sv.length d1, .slice b2 ss.length d2]] w fun e w' => e = .returned (.bool true) ∧ Below w.heap.size w w' := by
  have hb0 : Below w.heap.size w ((w.alloc (.cells #[.slice a1 sv.length c1, .slice a2 ss.length c2] 39)).alloc (.cells #[.slice b1 sv.length d1, .slice b2 ss.length d2] 39)) := ((Below.refl _ _).alloc (Nat.le_refl _) _).alloc (by simp) _
  have d1' : ((w.alloc (.cells #[.slice a1 sv.length c1, .slice a2 ss.length c2] 39)).alloc (.cells #[.slice b1 sv.length d1, .slice b2 ss.length d2] 39)).cell? ⟨w.heap.size, 1, none⟩ = some (.slice a2 ss.length c2) := by simp [go_sem]
  have d2' : ((w.alloc (.cells #[.slice a1 sv.length c1, .slice a2 ss.length c2] 39)).alloc (.cells #[.slice b1 sv.length d1, .slice b2 ss.length d2] 39)).cell? ⟨w.heap.size + 1, 1, none⟩ = some (.slice b2 ss.length d2) := by simp [go_sem]
  go_enter Tryz.func13, Tryz.ntmps13
  go_wp2_with fail
  generalize (w.alloc (.cells #[.slice a1 sv.length c1, .slice a2 ss.length c2] 39)).alloc (.cells #[.slice b1 sv.length d1, .slice b2 ss.length d2] 39) = W0 at *
  refine (eqIntS_same a1 b1 c1 d1 sv _ hv (h1.below hb0) (h3.below hb0)).mono ?_
  rintro e w1 ⟨rfl, b1'⟩
  have B1 : Below w.heap.size w w1 := hb0.trans (b1'.mono hb0.size)
  replace d1' := cell_on b1' (block_lt_of_cell d1') d1'
  replace d2' := cell_on b1' (block_lt_of_cell d2') d2'
  go_wp2_with fail
  refine (eqMarkS_same a2 b2 c2 d2 ss _ hl (h2.below B1) (h4.below B1)).mono ?_
  rintro e w2 ⟨rfl, b2'⟩
  go_wp2_with fail
  go_ret
  exact ⟨rfl, B1.trans (b2'.mono B1.size)⟩

set_option maxHeartbeats 800000 in
theorem markShow_any (a1 a2 : Option Addr) (c1 c2 h1 h2 h3 : Nat) (sv : List Int) (ss : List (ByteArray × Int)) (k : Int) (w : World) (hv : sv.length ≤ 6) (hl : ss.length ≤ 12) (hk0 : 0 ≤ k) (hk1 : k ≤ 100000) (h12 : h1 ≤ h2) (h23 : h2 ≤ h3) (hz3 : h3 ≤ w.heap.size) (hs1 : SafeZ w h1 h2 a1 sv) (hs2 : Safe w h2 h3 a2 ss) :
    Calls Tryz.prog 17 #[.agg #[.slice a1 sv.length c1, .slice a2 ss.length c2], .int .i64 k] w fun e w' => e = .returned (.int .i64 (k + (sv.length : Int) + 2 * (ss.length : Int))) ∧ SafeZ w' h1 h2 a1 (numsZ k sv.length) ∧ Safe w' h2 h3 a2 (marked (k + (sv.length : Int)) ss.length) ∧ Span h1 h3 w w' := by
  have hb0 : Below w.heap.size w (w.alloc (.cells #[.slice a1 sv.length c1, .slice a2 ss.length c2] 39)) := (Below.refl _ _).alloc (Nat.le_refl _) _
  have d1' : (w.alloc (.cells #[.slice a1 sv.length c1, .slice a2 ss.length c2] 39)).cell? ⟨w.heap.size, 1, none⟩ = some (.slice a2 ss.length c2) := by simp [go_sem]
  go_enter Tryz.func17, Tryz.ntmps17
  go_wp2_with fail
  generalize w.alloc (.cells #[.slice a1 sv.length c1, .slice a2 ss.length c2] 39) = W0 at *
  refine (markSafeZ_any a1 c1 h1 h2 sv k _ (by omega) hk0 (by omega) (hs1.below hb0)).mono ?_
  rintro e w1 ⟨rfl, hs1', s1⟩
  have d1'' : w1.cell? ⟨w.heap.size, 1, none⟩ = some (.slice a2 ss.length c2) := by rw [World.cell?_of_block (s1.block w.heap.size (block_lt_of_cell d1') (by omega))]; exact d1'
  clear d1'
  go_wp2_with fail
  refine (markSafe_any a2 c2 h2 h3 ss (k + (sv.length : Int)) _ (by omega) (by omega) (by omega) ((hs2.below hb0).span s1 (.inr (Nat.le_refl _)))).mono ?_
  rintro e w2 ⟨rfl, hs2', s2⟩
  go_wp2_with fail
  go_ret
  have sA : Span h1 h3 w W0 := ⟨hb0.os, hb0.tape, hb0.output, hb0.size, fun i hi _ => hb0.block i hi⟩
  exact ⟨rfl, hs1'.span s2 (.inl (Nat.le_refl _)), hs2', (sA.trans (s1.wide (Nat.le_refl _) h23)).trans (s2.wide h12 (Nat.le_refl _))⟩

set_option maxHeartbeats 800000 in
theorem heldShow_any (a1 a2 : Option Addr) (c1 c2 n s : Nat) (k : Int) (w : World) (hv : n ≤ 6) (hl : s ≤ 12) (hk0 : 0 ≤ k) (hk1 : k ≤ 100000) (hr1 : RowZ w a1 (numsZ k n)) (hr2 : Row w a2 (marked (k + (n : Int)) s)) :
    Calls Tryz.prog 19 #[.agg #[.slice a1 n c1, .slice a2 s c2], .int .i64 k] w fun e w' => e = .returned (.int .i64 (k + (n : Int) + 2 * (s : Int))) ∧ Below w.heap.size w w' := by
  have hb0 : Below w.heap.size w (w.alloc (.cells #[.slice a1 n c1, .slice a2 s c2] 39)) := (Below.refl _ _).alloc (Nat.le_refl _) _
  have d1' : (w.alloc (.cells #[.slice a1 n c1, .slice a2 s c2] 39)).cell? ⟨w.heap.size, 1, none⟩ = some (.slice a2 s c2) := by simp [go_sem]
  go_enter Tryz.func19, Tryz.ntmps19
  go_wp2_with fail
  generalize w.alloc (.cells #[.slice a1 n c1, .slice a2 s c2] 39) = W0 at *
  refine (heldIntS_any a1 c1 n k _ (by omega) hk0 (by omega) (hr1.below hb0)).mono ?_
  rintro e w1 ⟨rfl, b1⟩
  have B1 : Below w.heap.size w w1 := hb0.trans (b1.mono hb0.size)
  replace d1' := cell_on b1 (block_lt_of_cell d1') d1'
  have hneg : ¬ k + (n : Int) < 0 := by omega
  go_wp2_with fail
  refine (heldMarkS_any a2 c2 s (k + (n : Int)) _ (by omega) (by omega) (by omega) (hr2.below B1)).mono ?_
  rintro e w2 ⟨rfl, b2⟩
  have hneg2 : ¬ k + (n : Int) + 2 * (s : Int) < 0 := by omega
  go_wp2_with fail
  go_ret
  exact ⟨rfl, B1.trans (b2.mono B1.size)⟩

set_option maxHeartbeats 800000 in
theorem szGather_w (a0 a1 a2 : Option Addr) (c0 c1 c2 : Nat) (g : GatL) (left : Int) (w : World) (r0 : RowS w a0 g.ins) (r1 : RowW w a1 g.wins) (r2 : Row w a2 g.shown) (hf : FitG g) (h0 : 0 ≤ left) (h1 : left ≤ 1048576) :
    Calls Tryz.prog 6 #[.agg #[.slice a0 g.ins.length c0, .slice a1 g.wins.length c1, .slice a2 g.shown.length c2], .int .i64 left] w fun e w' => ∃ r : Int, e = .returned (.int .i64 r) ∧ -1 ≤ r ∧ r ≤ left ∧ (0 ≤ r → SmallG left g ∧ (lensW g.wins : Int) ≤ left) ∧ Below w.heap.size w w' := by
  have hb0 : Below w.heap.size w (w.alloc (.cells #[.slice a0 g.ins.length c0, .slice a1 g.wins.length c1, .slice a2 g.shown.length c2] 26)) := (Below.refl _ _).alloc (Nat.le_refl _) _
  have hlt := box_lt w (.cells #[.slice a0 g.ins.length c0, .slice a1 g.wins.length c1, .slice a2 g.shown.length c2] 26)
  have d1 : (w.alloc (.cells #[.slice a0 g.ins.length c0, .slice a1 g.wins.length c1, .slice a2 g.shown.length c2] 26)).cell? ⟨w.heap.size, 1, none⟩ = some (.slice a1 g.wins.length c1) := by simp [go_sem]
  have d2 : (w.alloc (.cells #[.slice a0 g.ins.length c0, .slice a1 g.wins.length c1, .slice a2 g.shown.length c2] 26)).cell? ⟨w.heap.size, 2, none⟩ = some (.slice a2 g.shown.length c2) := by simp [go_sem]
  go_enter Tryz.func6, Tryz.ntmps6
  go_wp2_with fail
  generalize w.alloc (.cells #[.slice a0 g.ins.length c0, .slice a1 g.wins.length c1, .slice a2 g.shown.length c2] 26) = W0 at *
  refine (szStringS_any a0 c0 g.ins left _ hf.ins.1 (r0.below hb0) hf.ins.2 h0 h1).mono ?_
  rintro e w1 ⟨⟨r, rfl, hr0, hr1, hr2⟩, rfl⟩
  have HS : Hid (0 ≤ r → SmallS left g.ins) := hr2
  clear hr2
  by_cases hneg : r < 0
  · go_wp2_with fail
    go_ret
    exact ⟨-1, rfl, by omega, by omega, fun h => by omega, hb0⟩
  go_wp2_with fail
  refine (szItemSS_w a1 c1 g.wins r _ (r1.below hb0) hf.wins (by omega) (by omega)).mono ?_
  rintro e w2 ⟨r', rfl, hs0, hs1, hs2, b2⟩
  have HW : Hid (0 ≤ r' → (lensW g.wins : Int) ≤ r ∧ SmallW r g.wins) := hs2
  clear hs2
  have B2 : Below w.heap.size w w2 := hb0.trans (b2.mono hb0.size)
  replace d2 := cell_on b2 hlt d2
  by_cases hneg2 : r' < 0
  · go_wp2_with fail
    go_ret
    exact ⟨-1, rfl, by omega, by omega, fun h => by omega, B2⟩
  go_wp2_with fail
  refine (szMarkS_any a2 c2 g.shown r' _ hf.shown.1 (r2.below B2) hf.shown.2 (by omega) (by omega)).mono ?_
  rintro e w3 ⟨r'', rfl, ht0, ht1, ht2, b3⟩
  have HM : Hid (0 ≤ r'' → SmallM r' g.shown) := ht2
  clear ht2
  have B3 : Below w.heap.size w w3 := B2.trans (b3.mono B2.size)
  by_cases hneg3 : r'' < 0
  · go_wp2_with fail
    go_ret
    exact ⟨-1, rfl, by omega, by omega, fun h => by omega, B3⟩
  go_wp2_with fail
  go_ret
  exact ⟨r'', rfl, ht0, by omega, fun h => ⟨⟨HS.out (by omega), (HW.out (by omega)).2.mono hr1, (HM.out h).mono (by omega)⟩, by have := (HW.out (by omega)).1; omega⟩, B3⟩

theorem PartW.spanBelow {w w' : World} {lo T g k lo' hi' : Nat} {ws : List (List ItemL)} (h : PartW w lo T g ws k) (hs : Span lo' hi' w w') (hd : hi' ≤ g) (hg : g < lo) : PartW w' lo T g ws k := by
  obtain ⟨L, U, G, f, h, hf, hd'⟩ := h
  refine ⟨L, U, G, f, h.of_block (hs.block g h.lt (.inr hd)), fun j hj hk => ?_, hd'⟩
  obtain ⟨h1, h2, h3, h4, h5, h6⟩ := hf j hj hk
  exact ⟨h1, h2.span h4 h5 hs (.inr (by omega)), h3, h4, h5, h6⟩

set_option maxHeartbeats 1600000 in
/-- A copied gather is marked: only its own blocks turn. -/
theorem markX_any (b0 b1 b2 lo hi d0 d1 d2 : Nat) (g : GatL) (w : World) (hs : SmallG 1048576 g) (hsum : lensW g.wins ≤ 1048576) (h01 : b0 < b1) (h1l : b1 < lo) (hlh : lo ≤ hi) (hh2 : hi ≤ b2) (hp0 : PartS w b0 g.ins g.ins.length) (hp1 : PartW w lo hi b1 g.wins g.wins.length) (hp2 : Own w b2 g.shown) :
    Calls Tryz.prog 15 #[.agg #[.slice (some ⟨b0, 0, none⟩) g.ins.length d0, .slice (some ⟨b1, 0, none⟩) g.wins.length d1, .slice (some ⟨b2, 0, none⟩) g.shown.length d2], .int .i64 1] w fun e w' => (∃ k' : Int, e = .returned (.int .i64 k') ∧ 0 ≤ k' ∧ k' ≤ 9000000) ∧ Span b0 (b2 + 1) w w' := by
  have hl0 : g.ins.length ≤ 1048576 := by have := hs.ins.1; omega
  have hl1 : g.wins.length ≤ 1048576 := by have := hs.wins.1; omega
  have hl2 : g.shown.length ≤ 1048576 := by have := hs.shown.1; omega
  have hw2 := hp2.lt
  have hb0 : Below w.heap.size w (w.alloc (.cells #[.slice (some ⟨b0, 0, none⟩) g.ins.length d0, .slice (some ⟨b1, 0, none⟩) g.wins.length d1, .slice (some ⟨b2, 0, none⟩) g.shown.length d2] 36)) := (Below.refl _ _).alloc (Nat.le_refl _) _
  have tG := tri_new w (.slice (some ⟨b0, 0, none⟩) g.ins.length d0) (.slice (some ⟨b1, 0, none⟩) g.wins.length d1) (.slice (some ⟨b2, 0, none⟩) g.shown.length d2) 36
  obtain ⟨c0, c1, c2, _, _, _⟩ := id tG
  have HS : Hid (SmallG 1048576 g) := hs
  clear hs
  go_enter Tryz.func15, Tryz.ntmps15
  go_wp2_with fail
  generalize w.alloc (.cells #[.slice (some ⟨b0, 0, none⟩) g.ins.length d0, .slice (some ⟨b1, 0, none⟩) g.wins.length d1, .slice (some ⟨b2, 0, none⟩) g.shown.length d2] 36) = W0 at *
  have hz : w.heap.size < W0.heap.size := block_lt_of_cell tG.c0
  have hp0' : PartS W0 b0 g.ins g.ins.length := hp0.below (by omega) hb0
  refine (markStringS_any b0 d0 g.ins 1 _ hl0 (by omega) (by omega) hp0').mono ?_
  rintro e w1 ⟨rfl, m1⟩
  have s1 : Span b0 (b0 + 1) W0 w1 := m1.span (Nat.le_refl _) (Nat.lt_succ_self _)
  have c1' : w1.cell? ⟨w.heap.size, 1, none⟩ = some (.slice (some ⟨b1, 0, none⟩) g.wins.length d1) := by rw [World.cell?_of_block (s1.block w.heap.size hz (by omega))]; exact c1
  have c2' : w1.cell? ⟨w.heap.size, 2, none⟩ = some (.slice (some ⟨b2, 0, none⟩) g.shown.length d2) := by rw [World.cell?_of_block (s1.block w.heap.size hz (by omega))]; exact c2
  have hp1' : PartW w1 lo hi b1 g.wins g.wins.length := (hp1.below hb0).spanBelow s1 (by omega) (by omega)
  clear c0 c1 c2
  go_wp2_with fail
  refine (markItemSS_any b1 d1 lo hi g.wins (1 + (g.ins.length : Int)) _ hl1 h1l (by omega) (by omega) hsum HS.out.wins hp1').mono ?_
  rintro e w2 ⟨⟨k2, rfl, hk20, hk21⟩, s2⟩
  have c2'' : w2.cell? ⟨w.heap.size, 2, none⟩ = some (.slice (some ⟨b2, 0, none⟩) g.shown.length d2) := by rw [World.cell?_of_block (s2.block w.heap.size (block_lt_of_cell c2') (by omega))]; exact c2'
  have ho2 : Own w2 b2 g.shown := by
    have h1 := hp2.below hb0
    obtain ⟨mm, f, h7, hf⟩ := id h1
    have e1 := s1.block b2 h1.lt (by omega)
    have hl' : b2 < w1.heap.size := Nat.lt_of_lt_of_le h1.lt s1.size
    exact ⟨mm, f, h7.of_block ((s2.block b2 hl' (by omega)).trans e1), hf⟩
  clear c1' c2'
  go_wp2_with fail
  refine (markMarkS_any b2 d2 g.shown.length k2 _ hl2 hk20 (by omega) g.shown rfl ho2).mono ?_
  rintro e w3 ⟨rfl, _, m3⟩
  go_wp2_with fail
  go_ret
  have sA : Span b0 (b2 + 1) w W0 := ⟨hb0.os, hb0.tape, hb0.output, hb0.size, fun i hi _ => hb0.block i hi⟩
  exact ⟨⟨k2 + 2 * (g.shown.length : Int), rfl, by omega, by omega⟩, ((sA.trans (s1.wide (Nat.le_refl _) (by omega))).trans (s2.wide (by omega) (by omega))).trans ((m3.span (Nat.le_refl b2) (Nat.lt_succ_self b2)).wide (by omega) (Nat.le_refl _))⟩

end Go.Proofs.YtpfhegengmlkmacGreatDoor
/- Shows in memory, two slices each: compared; an answer that holds shows and codes: marked, and held. -/
namespace Go.Proofs.YtpfhegengmlkmacGreatDoor
open Go.RowKit Go.BigFrame
set_option maxRecDepth 100000

/-- A show: its values and its stamp. -/
abbrev ShowV := List Int × List (ByteArray × Int)
/-- The slice at address 'a' holds the shows 'l', each in two cells. -/
def RowH (w : World) (a : Option Addr) (l : List ShowV) : Prop :=
  ∀ k, (h : k < l.length) → ∃ b o, a = some ⟨b, o, none⟩ ∧ b < w.heap.size ∧ ∃ a1 c1 a2 c2, w.cell? ⟨b, o + k * 2, none⟩ = some (.slice a1 l[k].1.length c1) ∧ w.cell? ⟨b, o + k * 2 + 1, none⟩ = some (.slice a2 l[k].2.length c2) ∧ RowZ w a1 l[k].1 ∧ Row w a2 l[k].2
/-- As few as a show may have. -/
def FewH (l : List ShowV) : Prop := ∀ p ∈ l, p.1.length ≤ 6 ∧ p.2.length ≤ 12
theorem RowH.below {w w' : World} {a : Option Addr} {l : List ShowV} (h : RowH w a l) (hb : Below w.heap.size w w') : RowH w' a l := fun k hk => by
  obtain ⟨b, o, ha, hlt, a1, c1, a2, c2, h0, h1, h2, h3⟩ := h k hk
  exact ⟨b, o, ha, Nat.lt_of_lt_of_le hlt hb.size, a1, c1, a2, c2, by rw [hb.cell hlt]; exact h0, by rw [hb.cell hlt]; exact h1, h2.below hb, h3.below hb⟩

set_option maxHeartbeats 1600000 in
theorem eqShowS_same (a b : Option Addr) (ca cb : Nat) (l : List ShowV) (w : World) (hl : l.length ≤ 1048576) (hf : FewH l) (ha : RowH w a l) (hb : RowH w b l) :
    Calls Tryz.prog 26 #[.slice a l.length ca, .slice b l.length cb] w fun e w' => e = .returned (.bool true) ∧ Below w.heap.size w w' := by
  go_enter Tryz.func26, Tryz.ntmps26
  go_wp2_with fail
  go_loopw [5] (fun i wr => ∃ k : Nat, k ≤ l.length ∧ i = .int .i64 k ∧ Below w.heap.size w wr) (fun i _ => l.length - (intOf i).toNat)
  case atStart => exact ⟨0, Nat.zero_le _, rfl, Below.refl _ _⟩
  case round =>
    obtain ⟨k, hk, rfl, hbl⟩ := hrel
    by_cases hlt : k < l.length
    · obtain ⟨b1, o1, rfl, g1, s1, t1, s2, t2, e0, e1, r1, r2⟩ := ha.below hbl k hlt
      obtain ⟨b2, o2, rfl, g2, s3, t3, s4, t4, f0, f1, r3, r4⟩ := hb.below hbl k hlt
      have k0 : (0 : Int) ≤ (k : Int) := by omega
      have k1 : (k : Int) < (l.length : Int) := by omega
      have hlk := hf _ (List.getElem_mem hlt)
      have hv : l[k].1.length ≤ maxLen := by unfold maxLen; omega
      have hs : l[k].2.length ≤ maxLen := by unfold maxLen; omega
      go_wp2_with fail
      refine wp_region_lat (by kernel_rfl) (by kernel_rfl) ?_
      have hne := Lat.some wr
      have q0 : ∀ n : Lat wr, n.w.cell? ⟨b1, o1 + k * 2, none⟩ = some (.slice s1 l[k].1.length t1) := fun n => n.cell g1 e0
      have q1 : ∀ n : Lat wr, n.w.cell? ⟨b1, o1 + k * 2 + 1, none⟩ = some (.slice s2 l[k].2.length t2) := fun n => n.cell g1 e1
      have q2 : ∀ n : Lat wr, n.w.cell? ⟨b2, o2 + k * 2, none⟩ = some (.slice s3 l[k].1.length t3) := fun n => n.cell g2 f0
      have q3 : ∀ n : Lat wr, n.w.cell? ⟨b2, o2 + k * 2 + 1, none⟩ = some (.slice s4 l[k].2.length t4) := fun n => n.cell g2 f1
      have ce : ∀ n : Lat wr, Calls Tryz.prog 13 #[.agg #[.slice s1 l[k].1.length t1, .slice s2 l[k].2.length t2], .agg #[.slice s3 l[k].1.length t3, .slice s4 l[k].2.length t4]] n.w fun e w'' => e = .returned (.bool true) ∧ Below n.w.heap.size n.w w'' := fun n => eqShow_same _ _ _ _ _ _ _ _ _ _ _ hv hs (r1.below n.h) (r2.below n.h) (r3.below n.h) (r4.below n.h)
      repeat (go_big_quiet_step ((go_at_call 13; exact Calls.lat_of (ce _))))
      refine wpQuiet_nil ?_
      rintro _ ⟨nq, rfl⟩
      go_wp2_with fail
      exact ⟨⟨k + 1, by omega, by go_num, hbl.trans (nq.h.mono hbl.size)⟩, by simp [intOf]; omega⟩
    · go_wp2_with fail
      go_ret
      exact ⟨rfl, hbl⟩

/-- A show of an answer: its numbers and its marks, the slices, and the blocks between which they lie. -/
structure ShoY where
  vals : List Int
  st : List (ByteArray × Int)
  a1 : Option Addr
  c1 : Nat
  a2 : Option Addr
  c2 : Nat
  lo : Nat
  mid : Nat
  mi2 : Nat
  hi : Nat
abbrev ShoY.sv (p : ShoY) : ShowV := (p.vals, p.st)
structure ShoY.In (w : World) (p : ShoY) : Prop where
  z : SafeZ w p.lo p.mid p.a1 p.vals
  s : Safe w p.mi2 p.hi p.a2 p.st
  o1 : p.lo ≤ p.mid
  o2 : p.mid ≤ p.hi
  o3 : p.hi ≤ w.heap.size
  o4 : p.lo ≤ p.mi2
  o5 : p.mi2 ≤ p.hi
theorem ShoY.In.below {w w' : World} {p : ShoY} (h : p.In w) (hb : Below w.heap.size w w') : p.In w' := ⟨h.z.below hb, h.s.below hb, h.o1, h.o2, Nat.le_trans h.o3 hb.size, h.o4, h.o5⟩
theorem ShoY.In.span {w w' : World} {p : ShoY} {lo hi : Nat} (h : p.In w) (hs : Span lo hi w w') (hd : p.hi ≤ lo ∨ hi ≤ p.lo) : p.In w' :=
  ⟨h.z.span hs (by have := h.o1; have := h.o2; omega), h.s.span hs (by have := h.o4; have := h.o5; omega), h.o1, h.o2, Nat.le_trans h.o3 hs.size, h.o4, h.o5⟩
/-- Block 't' begins with the shows of L, each in blocks of its own between lo and hi. -/
structure HW (w : World) (lo hi t : Nat) (L : List ShoY) : Prop where
  lt : t < w.heap.size
  cell : ∀ k, (h : k < L.length) → w.cell? ⟨t, k * 2, none⟩ = some (.slice L[k].a1 L[k].vals.length L[k].c1) ∧ w.cell? ⟨t, k * 2 + 1, none⟩ = some (.slice L[k].a2 L[k].st.length L[k].c2)
  at_ : ∀ p ∈ L, p.In w
  far : ∀ p ∈ L, t < p.lo ∨ p.hi ≤ t
  in_ : ∀ p ∈ L, lo ≤ p.lo ∧ p.hi ≤ hi
  dis : L.Pairwise fun p q => p.hi ≤ q.lo ∨ q.hi ≤ p.lo
theorem HW.below {w w' : World} {lo hi t : Nat} {L : List ShoY} (h : HW w lo hi t L) (hb : Below w.heap.size w w') : HW w' lo hi t L :=
  ⟨Nat.lt_of_lt_of_le h.lt hb.size, fun k hk => ⟨cell_on hb h.lt (h.cell k hk).1, cell_on hb h.lt (h.cell k hk).2⟩, fun p hp => (h.at_ p hp).below hb, h.far, h.in_, h.dis⟩
theorem HW.span {w w' : World} {lo hi t lo' hi' : Nat} {L : List ShoY} (h : HW w lo hi t L) (hs : Span lo' hi' w w') (ht : t < lo' ∨ hi' ≤ t) (hd : ∀ p ∈ L, p.hi ≤ lo' ∨ hi' ≤ p.lo) : HW w' lo hi t L := by
  have e := hs.block t h.lt ht
  exact ⟨Nat.lt_of_lt_of_le h.lt hs.size, fun k hk => ⟨(World.cell?_of_block (a := ⟨t, k * 2, none⟩) e).trans (h.cell k hk).1, (World.cell?_of_block (a := ⟨t, k * 2 + 1, none⟩) e).trans (h.cell k hk).2⟩, fun p hp => (h.at_ p hp).span hs (hd p hp), h.far, h.in_, h.dis⟩
theorem HW.row {w : World} {lo hi t : Nat} {L : List ShoY} (h : HW w lo hi t L) : RowH w (some ⟨t, 0, none⟩) (L.map (·.sv)) := fun k hk => by
  have hk' : k < L.length := by simpa using hk
  have h0 := h.cell k hk'
  have h1 := h.at_ L[k] (List.getElem_mem hk')
  exact ⟨t, 0, rfl, h.lt, L[k].a1, L[k].c1, L[k].a2, L[k].c2, by simpa using h0.1, by simpa using h0.2, by simpa using h1.z.row, by simpa using h1.s.row⟩

/-- All but the shows' own blocks lies as it lay. -/
structure KeepH (L : List ShoY) (w w' : World) : Prop where
  os : w'.os = w.os
  tape : w'.tape = w.tape
  output : w'.output = w.output
  size : w.heap.size ≤ w'.heap.size
  block : ∀ k, k < w.heap.size → (∀ p ∈ L, k < p.lo ∨ p.hi ≤ k) → w'.heap[k]? = w.heap[k]?
theorem KeepH.refl (L : List ShoY) (w : World) : KeepH L w w := ⟨rfl, rfl, rfl, Nat.le_refl _, fun _ _ _ => rfl⟩
theorem KeepH.trans {L : List ShoY} {x y z : World} (h : KeepH L x y) (k : KeepH L y z) : KeepH L x z := ⟨k.os.trans h.os, k.tape.trans h.tape, k.output.trans h.output, Nat.le_trans h.size k.size, fun i hi hn => (k.block i (Nat.lt_of_lt_of_le hi h.size) hn).trans (h.block i hi hn)⟩
theorem KeepH.of_span {L : List ShoY} {w w' : World} {p : ShoY} (hp : p ∈ L) (h : Span p.lo p.hi w w') : KeepH L w w' := ⟨h.os, h.tape, h.output, h.size, fun k hk hn => h.block k hk (hn p hp)⟩
theorem KeepH.span {L : List ShoY} {w w' : World} {lo hi : Nat} (h : KeepH L w w') (hin : ∀ p ∈ L, lo ≤ p.lo ∧ p.hi ≤ hi) : Span lo hi w w' := ⟨h.os, h.tape, h.output, h.size, fun k hk hn => h.block k hk fun p hp => by have := hin p hp; omega⟩

/-- How far a show moves the marks on. -/
def numH (p : ShoY) : Int := (p.vals.length : Int) + 2 * (p.st.length : Int)
def markH (k : Int) (p : ShoY) : ShoY := { p with vals := numsZ k p.vals.length, st := marked (k + (p.vals.length : Int)) p.st.length }
def kH : Int → Nat → List ShoY → Int
  | k, 0, _ => k
  | k, _, [] => k
  | k, j + 1, p :: t => kH (k + numH p) j t
def mixH : Int → Nat → List ShoY → List ShoY
  | _, 0, L => L
  | _, _, [] => []
  | k, j + 1, p :: t => markH k p :: mixH (k + numH p) j t
theorem mixH_len : ∀ (k : Int) (j : Nat) (L : List ShoY), (mixH k j L).length = L.length
  | _, 0, _ => by simp [mixH]
  | _, _ + 1, [] => by simp [mixH]
  | k, j + 1, p :: t => by simp [mixH, mixH_len _ j t]
theorem kH_step : ∀ (k : Int) (j : Nat) (L : List ShoY) (h : j < L.length), kH k (j + 1) L = kH k j L + numH L[j]
  | k, 0, p :: t, _ => by simp [kH]
  | k, j + 1, p :: t, h => by
    have := kH_step (k + numH p) j t (by simpa using h)
    simpa [kH] using this
theorem mixH_at : ∀ (k : Int) (j : Nat) (L : List ShoY) (i : Nat) (h : i < (mixH k j L).length) (h' : i < L.length), (mixH k j L)[i] = if i < j then markH (kH k i L) L[i] else L[i]
  | k, 0, L, i, h, h' => by simp [mixH]
  | k, j + 1, [], i, h, h' => by simp at h'
  | k, j + 1, p :: t, 0, h, h' => by simp [mixH, kH]
  | k, j + 1, p :: t, i + 1, h, h' => by
    have := mixH_at (k + numH p) j t i (by simpa [mixH] using h) (by simpa using h')
    simp only [mixH, List.getElem_cons_succ, this, kH, Nat.add_lt_add_iff_right]
theorem mixH_step (k : Int) (j : Nat) (L : List ShoY) (h : j < L.length) : mixH k (j + 1) L = (mixH k j L).set j (markH (kH k j L) L[j]) := by
  apply List.ext_getElem
  · rw [List.length_set, mixH_len, mixH_len]
  · intro i h1 h2
    have hi : i < L.length := by rw [mixH_len] at h1; exact h1
    rw [List.getElem_set, mixH_at k (j + 1) L i h1 hi]
    by_cases e : j = i
    · subst e
      simp
    · rw [if_neg e, mixH_at k j L i (by rw [mixH_len]; exact hi) hi]
      by_cases e2 : i < j
      · rw [if_pos e2, if_pos (by omega)]
      · rw [if_neg e2, if_neg (by omega)]
theorem mixH_same {k : Int} {L : List ShoY} {q : ShoY} (h : q ∈ mixH k L.length L) : ∃ p ∈ L, q.lo = p.lo ∧ q.hi = p.hi := by
  obtain ⟨i, hi, rfl⟩ := List.mem_iff_getElem.1 h
  have hi' : i < L.length := by rw [mixH_len] at hi; exact hi
  rw [mixH_at k L.length L i hi hi', if_pos hi']
  exact ⟨L[i], List.getElem_mem hi', rfl, rfl⟩
/-- As few as a show of an answer may have. -/
def FewY (L : List ShoY) : Prop := ∀ p ∈ L, p.vals.length ≤ 6 ∧ p.st.length ≤ 12
theorem kH_le {L : List ShoY} (hL : FewY L) : ∀ (j : Nat) (k : Int), j ≤ L.length → k ≤ kH k j L ∧ kH k j L ≤ k + 30 * (j : Int) := by
  intro j
  induction j with
  | zero => intro k _; simp [kH]
  | succ j ih =>
    intro k hj
    have h1 := ih k (by omega)
    have h2 := hL L[j] (List.getElem_mem (by omega))
    rw [kH_step k j L (by omega)]
    unfold numH
    omega

/-- One show's contents turned. -/
theorem HW.turn {w w' : World} {lo hi t : Nat} {L : List ShoY} (h : HW w lo hi t L) {j : Nat} (hj : j < L.length) {q : ShoY} (hq : q.a1 = L[j].a1 ∧ q.c1 = L[j].c1 ∧ q.a2 = L[j].a2 ∧ q.c2 = L[j].c2 ∧ q.lo = L[j].lo ∧ q.hi = L[j].hi ∧ q.vals.length = L[j].vals.length ∧ q.st.length = L[j].st.length) (hs : Span L[j].lo L[j].hi w w') (hn : q.In w') : HW w' lo hi t (L.set j q) := by
  have hm := List.getElem_mem hj
  have hd := List.pairwise_iff_getElem.1 h.dis
  have hset : ∀ i, (hi : i < (L.set j q).length) → ∃ hi' : i < L.length, ((L.set j q)[i].a1 = L[i].a1 ∧ (L.set j q)[i].c1 = L[i].c1 ∧ (L.set j q)[i].a2 = L[i].a2 ∧ (L.set j q)[i].c2 = L[i].c2 ∧ (L.set j q)[i].lo = L[i].lo ∧ (L.set j q)[i].hi = L[i].hi ∧ (L.set j q)[i].vals.length = L[i].vals.length ∧ (L.set j q)[i].st.length = L[i].st.length) := fun i hi => by
    have hi' : i < L.length := by simpa using hi
    refine ⟨hi', ?_⟩
    rw [List.getElem_set]
    split
    · rename_i e; subst e; exact hq
    · exact ⟨rfl, rfl, rfl, rfl, rfl, rfl, rfl, rfl⟩
  have eb := hs.block t h.lt (h.far _ hm)
  refine ⟨Nat.lt_of_lt_of_le h.lt hs.size, fun k hk => ?_, fun p hp => ?_, fun p hp => ?_, fun p hp => ?_, ?_⟩
  · obtain ⟨hk', e1, e2, e3, e4, _, _, e5, e6⟩ := hset k hk
    rw [e1, e2, e3, e4, e5, e6, World.cell?_of_block (a := ⟨t, k * 2, none⟩) eb, World.cell?_of_block (a := ⟨t, k * 2 + 1, none⟩) eb]
    exact h.cell k hk'
  · obtain ⟨i, hi, rfl⟩ := List.mem_iff_getElem.1 hp
    have hi' : i < L.length := by simpa using hi
    rw [List.getElem_set]
    split
    · exact hn
    · rename_i e
      refine (h.at_ L[i] (List.getElem_mem hi')).span hs ?_
      rcases Nat.lt_or_gt_of_ne e with h4 | h4
      · exact (hd j i hj hi' h4).symm
      · exact hd i j hi' hj h4
  · obtain ⟨i, hi, rfl⟩ := List.mem_iff_getElem.1 hp
    obtain ⟨hi', _, _, _, _, e2, e3, _, _⟩ := hset i hi
    rw [e2, e3]
    exact h.far _ (List.getElem_mem hi')
  · obtain ⟨i, hi, rfl⟩ := List.mem_iff_getElem.1 hp
    obtain ⟨hi', _, _, _, _, e2, e3, _, _⟩ := hset i hi
    rw [e2, e3]
    exact h.in_ _ (List.getElem_mem hi')
  · rw [List.pairwise_iff_getElem]
    intro a b ha hb hab
    obtain ⟨ha', _, _, _, _, e2, e3, _, _⟩ := hset a ha
    obtain ⟨hb', _, _, _, _, f2, f3, _, _⟩ := hset b hb
    rw [e2, e3, f2, f3]
    exact hd a b ha' hb' hab

set_option maxHeartbeats 1600000 in
theorem markHW_any (t cap lo hi : Nat) (L : List ShoY) (k : Int) (w : World) (h6 : L.length ≤ 100) (hL : FewY L) (hM : ∀ p ∈ L, p.mid ≤ p.mi2) (hk0 : 0 ≤ k) (hk1 : k ≤ 1000000) (h : HW w lo hi t L) :
    Calls Tryz.prog 32 #[.slice (some ⟨t, 0, none⟩) L.length cap, .int .i64 k] w fun e w' => e = .returned (.int .i64 (kH k L.length L)) ∧ HW w' lo hi t (mixH k L.length L) ∧ KeepH L w w' := by
  have HL : Hid (FewY L) := hL
  clear hL
  go_enter Tryz.func32, Tryz.ntmps32
  go_wp2_with fail
  go_loopw [1, 5] (fun kv i wr => ∃ j : Nat, j ≤ L.length ∧ i = .int .i64 j ∧ kv = .int .i64 (kH k j L) ∧ HW wr lo hi t (mixH k j L) ∧ KeepH L w wr) (fun _ i _ => L.length - (intOf i).toNat)
  case atStart => exact ⟨0, Nat.zero_le _, rfl, by simp [kH], by simpa [mixH] using h, KeepH.refl _ _⟩
  case round =>
    clear h
    obtain ⟨j, hj, rfl, rfl, hy, hkeep⟩ := hrel
    by_cases hlt : j < L.length
    · have hjm : j < (mixH k j L).length := by rw [mixH_len]; exact hlt
      have ej : (mixH k j L)[j] = L[j] := by rw [mixH_at k j L j hjm hlt, if_neg (by omega)]
      obtain ⟨c1, c2⟩ := hy.cell j hjm
      have e3 := hy.at_ _ (List.getElem_mem hjm)
      have efar := hy.far _ (List.getElem_mem hjm)
      rw [ej] at c1 c2 e3 efar
      have hsp := HL.out L[j] (List.getElem_mem hlt)
      have hb := kH_le HL.out j k hj
      have hst := kH_step k j L hlt
      unfold numH at hst
      have j0 : (0 : Int) ≤ (j : Int) := by omega
      have j1 : (j : Int) < (L.length : Int) := by omega
      obtain ⟨kj, hkj⟩ : ∃ kj, kj = kH k j L := ⟨_, rfl⟩
      rw [← hkj] at hb hst
      have HKJ : Hid (kj = kH k j L) := hkj
      rw [← hkj]
      have HN : Hid (kH k (j + 1) L = kj + ((L[j].vals.length : Int) + 2 * (L[j].st.length : Int))) := hst
      have tl := hy.lt
      have o1 := e3.o1
      have o2 := e3.o2
      have o3 := e3.o3
      have o4 := e3.o4
      have o5 := e3.o5
      have hmm := hM _ (List.getElem_mem hlt)
      clear hkj hst
      go_wp2_with fail
      refine (markSafeZ_any L[j].a1 L[j].c1 L[j].lo L[j].mid L[j].vals kj wr (by omega) (by omega) (by omega) e3.z).mono ?_
      rintro e w1 ⟨rfl, hz1, s1⟩
      have hs1 := e3.s.span s1 (.inr hmm)
      have c2' : w1.cell? ⟨t, j * 2 + 1, none⟩ = some (.slice L[j].a2 L[j].st.length L[j].c2) := (World.cell?_of_block (a := ⟨t, j * 2 + 1, none⟩) (s1.block t tl (by omega))).trans c2
      go_wp2_with fail
      refine (markSafe_any L[j].a2 L[j].c2 L[j].mi2 L[j].hi L[j].st (kj + (L[j].vals.length : Int)) w1 (by omega) (by omega) (by omega) hs1).mono ?_
      rintro e w2 ⟨rfl, hs2, s2⟩
      have hz2 := hz1.span s2 (.inl hmm)
      have s12 : Span L[j].lo L[j].hi wr w2 := (s1.wide (Nat.le_refl _) o2).trans (s2.wide o4 (Nat.le_refl _))
      have hy1 := hy.turn hjm (q := markH (kH k j L) L[j]) (by rw [ej]; exact ⟨rfl, rfl, rfl, rfl, rfl, rfl, numsZ_len _ _, marked_length _ _⟩) (by rw [ej]; exact s12) ⟨by rw [← HKJ.out]; exact hz2, by rw [← HKJ.out]; exact hs2, o1, o2, Nat.le_trans o3 s12.size, o4, o5⟩
      rw [← mixH_step k j L hlt] at hy1
      go_wp2_with fail
      exact ⟨⟨j + 1, by omega, by go_num, by rw [HN.out]; congr 1; omega, hy1, hkeep.trans (KeepH.of_span (List.getElem_mem hlt) s12)⟩, by simp [intOf]; omega⟩
    · obtain rfl : j = L.length := by omega
      go_wp2_with fail
      go_ret
      exact ⟨rfl, hy, hkeep⟩
set_option maxHeartbeats 400000 in
theorem markShowS_none (a : Option Addr) (cap : Nat) (k : Int) (w : World) :
    Calls Tryz.prog 32 #[.slice a 0 cap, .int .i64 k] w fun e w' => e = .returned (.int .i64 k) ∧ w' = w := by
  go_enter Tryz.func32, Tryz.ntmps32
  go_wp2_with fail
  go_loop [1, 5] (fun kk i => i = .int .i64 0 ∧ kk = .int .i64 k) (fun _ _ => 0)
  case atStart => exact ⟨rfl, rfl⟩
  case round =>
    obtain ⟨rfl, rfl⟩ := hrel
    go_wp2_with fail
    go_ret
    exact ⟨rfl, rfl⟩

set_option maxHeartbeats 1600000 in
theorem heldHW_any (a : Option Addr) (cap : Nat) (L : List ShoY) (k : Int) (w : World) (h6 : L.length ≤ 100) (hL : FewY L) (hk0 : 0 ≤ k) (hk1 : k ≤ 1000000) (hr : RowH w a ((mixH k L.length L).map (·.sv))) :
    Calls Tryz.prog 34 #[.slice a L.length cap, .int .i64 k] w fun e w' => e = .returned (.int .i64 (kH k L.length L)) ∧ Below w.heap.size w w' := by
  have HL : Hid (FewY L) := hL
  clear hL
  go_enter Tryz.func34, Tryz.ntmps34
  go_wp2_with fail
  go_loopw [1, 5] (fun kv i wr => ∃ j : Nat, j ≤ L.length ∧ i = .int .i64 j ∧ kv = .int .i64 (kH k j L) ∧ Below w.heap.size w wr) (fun _ i _ => L.length - (intOf i).toNat)
  case atStart => exact ⟨0, Nat.zero_le _, rfl, by simp [kH], Below.refl _ _⟩
  case round =>
    obtain ⟨j, hj, rfl, rfl, hb⟩ := hrel
    by_cases hlt : j < L.length
    · have hjm : j < ((mixH k L.length L).map (·.sv)).length := by rw [List.length_map, mixH_len]; exact hlt
      obtain ⟨b, o, rfl, hblt, s1, t1, s2, t2, c1, c2, hr1, hr2⟩ := hr.below hb j hjm
      have ej : ((mixH k L.length L).map (·.sv))[j] = (numsZ (kH k j L) L[j].vals.length, marked (kH k j L + (L[j].vals.length : Int)) L[j].st.length) := by
        rw [List.getElem_map, mixH_at k L.length L j (by rw [mixH_len]; exact hlt) hlt, if_pos hlt]
        rfl
      rw [ej] at c1 c2 hr1 hr2
      simp only [numsZ_len, marked_length] at c1 c2
      have hsp := HL.out L[j] (List.getElem_mem hlt)
      have hbd := kH_le HL.out j k hj
      have hst := kH_step k j L hlt
      unfold numH at hst
      have j0 : (0 : Int) ≤ (j : Int) := by omega
      have j1 : (j : Int) < (L.length : Int) := by omega
      obtain ⟨kj, hkj⟩ : ∃ kj, kj = kH k j L := ⟨_, rfl⟩
      rw [← hkj] at hbd hst hr1 hr2
      rw [← hkj]
      have HN : Hid (kH k (j + 1) L = kj + ((L[j].vals.length : Int) + 2 * (L[j].st.length : Int))) := hst
      clear hkj ej hst
      go_wp2_with fail
      refine (heldIntS_any s1 t1 L[j].vals.length kj wr (by omega) (by omega) (by omega) hr1).mono ?_
      rintro e w1 ⟨rfl, b1⟩
      have c2' := cell_on b1 hblt c2
      have hn1 : ¬ (kj + (L[j].vals.length : Int)) < 0 := by omega
      go_wp2_with fail
      refine (heldMarkS_any s2 t2 L[j].st.length (kj + (L[j].vals.length : Int)) w1 (by omega) (by omega) (by omega) (hr2.below b1)).mono ?_
      rintro e w2 ⟨rfl, b2⟩
      have hn2 : ¬ (kj + (L[j].vals.length : Int) + 2 * (L[j].st.length : Int)) < 0 := by omega
      go_wp2_with fail
      exact ⟨⟨j + 1, by omega, by go_num, by rw [HN.out]; congr 1; omega, hb.trans ((b1.trans (b2.mono b1.size)).mono hb.size)⟩, by simp [intOf]; omega⟩
    · obtain rfl : j = L.length := by omega
      go_wp2_with fail
      go_ret
      exact ⟨rfl, hb⟩

end Go.Proofs.YtpfhegengmlkmacGreatDoor
/- Rows of feeds in memory, three cells each. Walks: szFeedS (with sums), toFeedS, eqFeedS, markFeedS. -/
namespace Go.Proofs.YtpfhegengmlkmacGreatDoor
open Go.RowKit Go.BigFrame
set_option maxRecDepth 100000

/-- A feed: the input that it names, and its item. -/
abbrev FeedV := Int × ItemL
/-- The slice at address 'a' holds the feeds 'l', each in three cells. -/
def RowF (w : World) (a : Option Addr) (l : List FeedV) : Prop :=
  ∀ k, (h : k < l.length) → ∃ b o, a = some ⟨b, o, none⟩ ∧ b < w.heap.size ∧ w.cell? ⟨b, o + k * 3, none⟩ = some (.int .i64 l[k].1) ∧ w.cell? ⟨b, o + k * 3 + 1, none⟩ = some (.int .i64 l[k].2.1) ∧ ∃ v, w.cell? ⟨b, o + k * 3 + 2, none⟩ = some v ∧ IsSl w v l[k].2.2
def FitF (l : List FeedV) : Prop := l.length ≤ maxLen ∧ ∀ j, (h : j < l.length) → FitM l[j].2.2
def SmallF (n : Int) (l : List FeedV) : Prop := (l.length : Int) ≤ n ∧ ∀ j, (h : j < l.length) → SmallM n l[j].2.2
theorem RowF.below {w w' : World} {a : Option Addr} {l : List FeedV} (h : RowF w a l) (hb : Below w.heap.size w w') : RowF w' a l := fun k hk => by
  obtain ⟨b, o, ha, hlt, h0, h1, v, h2, h3⟩ := h k hk
  exact ⟨b, o, ha, Nat.lt_of_lt_of_le hlt hb.size, by rw [hb.cell hlt]; exact h0, by rw [hb.cell hlt]; exact h1, v, by rw [hb.cell hlt]; exact h2, h3.below hb⟩
def lensF : List FeedV → Nat
  | [] => 0
  | x :: l => x.2.2.length + lensF l
theorem lensF_append (l m : List FeedV) : lensF (l ++ m) = lensF l + lensF m := by
  induction l with
  | nil => simp [lensF]
  | cons x l ih => simp [lensF, ih]; omega
theorem lensF_take {l : List FeedV} {k : Nat} (h : k < l.length) : lensF (l.take (k + 1)) = lensF (l.take k) + l[k].2.2.length := by
  rw [List.take_succ_eq_append_getElem h, lensF_append]
  simp [lensF]
theorem lensF_le {l : List FeedV} (k : Nat) : lensF (l.take k) ≤ lensF l := by
  have := lensF_append (l.take k) (l.drop k)
  rw [List.take_append_drop] at this
  omega

set_option maxHeartbeats 800000 in
theorem szFeed_w (i x : Int) (a : Option Addr) (c : Nat) (l : List (ByteArray × Int)) (left : Int) (w : World) (hr : Row w a l) (hf : FitM l) (h0 : 0 ≤ left) (h1 : left ≤ 1048576) :
    Calls Tryz.prog 7 #[.agg #[.int .i64 i, .int .i64 x, .slice a l.length c], .int .i64 left] w fun e w' => ∃ r : Int, e = .returned (.int .i64 r) ∧ -1 ≤ r ∧ r ≤ left ∧ (0 ≤ r → r + (l.length : Int) ≤ left ∧ SmallM left l) ∧ Below w.heap.size w w' := by
  have hb0 : Below w.heap.size w (w.alloc (.cells #[.int .i64 i, .int .i64 x, .slice a l.length c] 30)) := (Below.refl _ _).alloc (Nat.le_refl _) _
  go_enter Tryz.func7, Tryz.ntmps7
  go_wp2_with fail
  refine (szItem_w x a c l left _ (hr.below hb0) hf h0 h1).mono ?_
  rintro e w1 ⟨r, rfl, hr0, hr1, hr2, b1⟩
  have B1 : Below w.heap.size w w1 := hb0.trans (b1.mono hb0.size)
  have HS : Hid (0 ≤ r → r + (l.length : Int) ≤ left ∧ SmallM left l) := hr2
  clear hr2
  by_cases hneg : r < 0
  · go_wp2_with fail
    go_ret
    exact ⟨-1, rfl, by omega, by omega, fun h => by omega, B1⟩
  · go_wp2_with fail
    go_ret
    exact ⟨r, rfl, hr0, hr1, HS.out, B1⟩

theorem szF_step {l : List FeedV} {left : Int} {k : Nat} (H : ∀ j, (h : j < l.length) → j < k → SmallM left l[j].2.2) (hk : k < l.length) (h : SmallM left l[k].2.2) : ∀ j, (h : j < l.length) → j < k + 1 → SmallM left l[j].2.2 := fun j hj hlt => by
  by_cases e : j = k
  · subst e; exact h
  · exact H j hj (by omega)

set_option maxHeartbeats 1600000 in
theorem szFeedS_w (a : Option Addr) (cap : Nat) (l : List FeedV) (left : Int) (w : World) (hr : RowF w a l) (hf : FitF l) (h0 : 0 ≤ left) (h1 : left ≤ 1048576) :
    Calls Tryz.prog 21 #[.slice a l.length cap, .int .i64 left] w fun e w' => ∃ r : Int, e = .returned (.int .i64 r) ∧ -1 ≤ r ∧ r ≤ left ∧ (0 ≤ r → r + (l.length : Int) + (lensF l : Int) ≤ left ∧ SmallF left l) ∧ Below w.heap.size w w' := by
  have hl := hf.1
  unfold maxLen at hl
  by_cases hc : left - (l.length : Int) < 0
  · go_enter Tryz.func21, Tryz.ntmps21
    go_wp2_with fail
    go_ret
    exact ⟨-1, rfl, by omega, by omega, fun h => by omega, Below.refl _ _⟩
  · go_enter Tryz.func21, Tryz.ntmps21
    go_wp2_with fail
    go_loopw [1, 5] (fun lf i wr => ∃ (k n : Nat) (q : Int), k ≤ l.length ∧ i = .int .i64 k ∧ lf = .int .i64 q ∧ 0 ≤ q ∧ Hid (n = lensF (l.take k)) ∧ q + (l.length : Int) + (n : Int) ≤ left ∧ (∀ j, (h : j < l.length) → j < k → SmallM left l[j].2.2) ∧ Below w.heap.size w wr) (fun _ i _ => l.length - (intOf i).toNat)
    case atStart => exact ⟨0, 0, _, Nat.zero_le _, rfl, rfl, by omega, rfl, by omega, fun j _ h => by omega, Below.refl _ _⟩
    case round =>
      obtain ⟨k, n, q, hk, rfl, rfl, hq0, HN, hq1, hall, hb⟩ := hrel
      by_cases hlt : k < l.length
      · obtain ⟨b, o, rfl, hblt, c0, c1, v, c2, hv⟩ := hr.below hb k hlt
        obtain ⟨sa, sc, rfl, hcap, hrow⟩ := hv
        have HST : Hid (SmallM left l[k].2.2 → ∀ j, (h : j < l.length) → j < k + 1 → SmallM left l[j].2.2) := szF_step hall hlt
        have HN2 : Hid (n + l[k].2.2.length = lensF (l.take (k + 1))) := by rw [lensF_take hlt, ← HN.out]; rfl
        have k0 : (0 : Int) ≤ (k : Int) := by omega
        have k1 : (k : Int) < (l.length : Int) := by omega
        clear hall
        go_wp2_with fail
        refine (szFeed_w _ _ sa sc l[k].2.2 q _ hrow (hf.2 k hlt) hq0 (by omega)).mono ?_
        rintro e w1 ⟨r, rfl, hr0, hr1, hr2, hb1⟩
        have HR2 : Hid (0 ≤ r → r + (l[k].2.2.length : Int) ≤ q ∧ SmallM q l[k].2.2) := hr2
        clear hr2
        by_cases hneg : r < 0
        · go_wp2_with fail
          go_ret
          exact ⟨-1, rfl, by omega, by omega, fun h => by omega, hb.trans (hb1.mono hb.size)⟩
        · have hle := (HR2.out (by omega)).1
          go_wp2_with fail
          exact ⟨⟨k + 1, n + l[k].2.2.length, r, by omega, by go_num, rfl, by omega, HN2, by omega, HST.out ((HR2.out (by omega)).2.mono (by omega)), hb.trans (hb1.mono hb.size)⟩, by simp [intOf]; omega⟩
      · have HF : Hid (n = lensF l) := by rw [HN.out, List.take_of_length_le (by omega)]; rfl
        go_wp2_with fail
        go_ret
        exact ⟨q, rfl, by omega, by omega, fun _ => ⟨by rw [← HF.out]; exact hq1, by omega, fun j hj => hall j hj (by omega)⟩, hb⟩

/-- The first 'k' feeds of 'l' lie in block 'g', which has room for all; their marks lie each in a block of its own, from 'lo' on and ahead of 'T'. -/
def PartF (w : World) (lo T g : Nat) (l : List FeedV) (k : Nat) : Prop :=
  ∃ (G C : Nat → Nat) (m : Nat) (f : Nat → Value), w.rowIs g 46 m f ∧ l.length * 3 ≤ m ∧
    (∀ j, (h : j < l.length) → j < k → f (j * 3) = .int .i64 l[j].1 ∧ f (j * 3 + 1) = .int .i64 l[j].2.1 ∧ f (j * 3 + 2) = .slice (some ⟨G j, 0, none⟩) l[j].2.2.length (C j) ∧ l[j].2.2.length ≤ C j ∧ Own w (G j) l[j].2.2 ∧ lo ≤ G j ∧ G j < T ∧ G j ≠ g) ∧ ∀ i j, i < k → j < k → i ≠ j → G i ≠ G j
theorem PartF.lt {w : World} {lo T g k : Nat} {l : List FeedV} (h : PartF w lo T g l k) : g < w.heap.size := by
  obtain ⟨_, _, _, _, h, _⟩ := h
  exact h.lt
theorem PartF.below {w w' : World} {lo T g k : Nat} {l : List FeedV} (h : PartF w lo T g l k) (hb : Below w.heap.size w w') : PartF w' lo T g l k := by
  have hlt := h.lt
  obtain ⟨G, C, m, f, h, hm, hf, hd⟩ := h
  refine ⟨G, C, m, f, h.of_block (hb.block g hlt), hm, fun j hj hk => ?_, hd⟩
  obtain ⟨h1, h2, h3, h4, h5, h6⟩ := hf j hj hk
  exact ⟨h1, h2, h3, h4, h5.below hb, h6⟩
theorem PartF.spanF {w w' : World} {lo T g k lo' hi' : Nat} {l : List FeedV} (h : PartF w lo T g l k) (hs : Span lo' hi' w w') (hd : hi' ≤ lo ∧ hi' ≤ g) : PartF w' lo T g l k := by
  have hlt := h.lt
  obtain ⟨G, C, m, f, h, hm, hf, hd'⟩ := h
  refine ⟨G, C, m, f, h.of_block (hs.block g hlt (by omega)), hm, fun j hj hk => ?_, hd'⟩
  obtain ⟨h1, h2, h3, h4, h5, h6, h7⟩ := hf j hj hk
  obtain ⟨mm, ff, h8, h9⟩ := id h5
  exact ⟨h1, h2, h3, h4, ⟨mm, ff, h8.of_block (hs.block (G j) h5.lt (by omega)), h9⟩, h6, h7⟩
theorem PartF.grow {w : World} {lo T T' g k : Nat} {l : List FeedV} (h : PartF w lo T g l k) (hT : T ≤ T') : PartF w lo T' g l k := by
  obtain ⟨G, C, m, f, h, hm, hf, hd⟩ := h
  refine ⟨G, C, m, f, h, hm, fun j hj hk => ?_, hd⟩
  obtain ⟨h1, h2, h3, h4, h5, h6, h7, h8⟩ := hf j hj hk
  exact ⟨h1, h2, h3, h4, h5, h6, by omega, h8⟩
theorem PartF.made (w : World) (lo : Nat) (l : List FeedV) (z : Array Value) : PartF (w.alloc (.cells (madeCells z (l.length * 3)) 46)) lo (w.heap.size + 1) w.heap.size l 0 := by
  refine ⟨fun _ => 0, fun _ => 0, l.length * 3, fun i => z[i % z.size]!, ?_, Nat.le_refl _, fun j _ h => by omega, fun i j h => by omega⟩
  have h := World.rowIs_alloc w (madeCells z (l.length * 3)) 46 (fun i => z[i % z.size]!) (fun i hi => by
    rw [size_madeCells] at hi
    simp [madeCells, hi])
  rwa [size_madeCells] at h
theorem PartF.cell {w : World} {lo T g k : Nat} {l : List FeedV} (h : PartF w lo T g l k) {i : Nat} (hi : i < l.length * 3) : ∃ v, w.cell? ⟨g, i, none⟩ = some v := by
  obtain ⟨_, _, m, f, h, hm, _⟩ := h
  exact ⟨_, h.cell (by omega)⟩
theorem PartF.frozen {w : World} {lo T g k : Nat} {l : List FeedV} (h : PartF w lo T g l k) (i : Nat) : w.frozen? ⟨g, i, none⟩ = false := by
  obtain ⟨_, _, m, f, h, _⟩ := h
  exact h.frozen i
theorem PartF.step {w : World} {lo T g k : Nat} {l : List FeedV} (h : PartF w lo T g l k) (hk : k < l.length) {b c : Nat} (hT : T ≤ b) (hlo : lo ≤ b) (hg : b ≠ g) (hc : l[k].2.2.length ≤ c) (ho : Own w b l[k].2.2) :
    PartF (((w.setCell ⟨g, k * 3, none⟩ (.int .i64 l[k].1)).setCell ⟨g, k * 3 + 1, none⟩ (.int .i64 l[k].2.1)).setCell ⟨g, k * 3 + 2, none⟩ (.slice (some ⟨b, 0, none⟩) l[k].2.2.length c)) lo (b + 1) g l (k + 1) := by
  obtain ⟨G, C, m, f, h, hm, hf, hd⟩ := h
  refine ⟨fun j => if j = k then b else G j, fun j => if j = k then c else C j, m, _, ((h.set _ _).set _ _).set _ _, hm, fun j hj hlt => ?_, fun i j hi hj hne => ?_⟩
  · by_cases e : j = k
    · subst e
      simp only [if_true]
      refine ⟨by simp, by simp, by simp, hc, ((ho.setOther hg _ _).setOther hg _ _).setOther hg _ _, hlo, by omega, hg⟩
    · obtain ⟨h1, h2, h3, h4, h5, h6, h7, h8⟩ := hf j hj (by omega)
      have e0 : j * 3 ≠ k * 3 + 1 := by omega
      have e1 : j * 3 ≠ k * 3 := by omega
      have e2 : j * 3 ≠ k * 3 + 2 := by omega
      have e3 : j * 3 + 1 ≠ k * 3 := by omega
      have e4 : j * 3 + 1 ≠ k * 3 + 1 := by omega
      have e5 : j * 3 + 1 ≠ k * 3 + 2 := by omega
      have e6 : j * 3 + 2 ≠ k * 3 := by omega
      have e7 : j * 3 + 2 ≠ k * 3 + 1 := by omega
      have e8 : j * 3 + 2 ≠ k * 3 + 2 := by omega
      simp only [if_neg e, if_neg e0, if_neg e1, if_neg e2, if_neg e3, if_neg e4, if_neg e5, if_neg e6, if_neg e7, if_neg e8]
      exact ⟨h1, h2, h3, h4, ((h5.setOther h8 _ _).setOther h8 _ _).setOther h8 _ _, h6, by omega, h8⟩
  · by_cases e : i = k
    · subst e
      have hj' : j < i := by omega
      have := (hf j (by omega) hj').2.2.2.2.2.2.1
      simp only [if_true, if_neg (by omega : ¬ j = i)]
      omega
    · by_cases e' : j = k
      · subst e'
        have hi' : i < j := by omega
        have := (hf i (by omega) hi').2.2.2.2.2.2.1
        simp only [if_true, if_neg e]
        omega
      · simp only [if_neg e, if_neg e']
        exact hd i j (by omega) (by omega) hne
theorem PartF.row {w : World} {lo T g : Nat} {l : List FeedV} (h : PartF w lo T g l l.length) : RowF w (some ⟨g, 0, none⟩) l := fun k hk => by
  obtain ⟨G, C, m, f, h, hm, hf, _⟩ := h
  obtain ⟨h1, h2, h3, h4, h5, _⟩ := hf k hk hk
  exact ⟨g, 0, rfl, h.lt, by rw [Nat.zero_add, h.cell (by omega), h1], by rw [Nat.zero_add, h.cell (by omega), h2], _, by rw [Nat.zero_add, h.cell (by omega), h3], _, _, rfl, h4, h5.row⟩
theorem Tryz.infoFd : (Tryz.prog.info? 46).map (fun i => (i.zero, i.size, i.bytes)) = some (some (.agg #[.int .i64 0, .int .i64 0, .slice none 0 0]), 3, 40) := by kernel_rfl

set_option maxHeartbeats 1600000 in
theorem toFeedS_any (a : Option Addr) (cap : Nat) (l : List FeedV) (w : World) (hl : l.length ≤ 1048576) (hs : ∀ j, (h : j < l.length) → l[j].2.2.length ≤ 1048576) (hr : RowF w a l) :
    Calls Tryz.prog 24 #[.slice a l.length cap] w fun e w' => e = .returned (.slice (some ⟨w.heap.size, 0, none⟩) l.length l.length) ∧ PartF w' w.heap.size w'.heap.size w.heap.size l l.length ∧ Below w.heap.size w w' := by
  obtain ⟨i0, hi, hz0, hz1, hz2⟩ := info_parts Tryz.infoFd
  have hmk : ∀ u : World, (Instr.makeSlice 62 (.int .i64 (l.length : Int)) (.int .i64 (l.length : Int))).run Tryz.prog u =
      .ok (.slice (some ⟨u.heap.size, 0, none⟩) l.length l.length) (u.alloc (.cells (madeCells #[.int .i64 0, .int .i64 0, .slice none 0 0] (l.length * 3)) 46)) := fun u => by
    have h := run_make (P := Tryz.prog) u 62 46 i0 (.agg #[.int .i64 0, .int .i64 0, .slice none 0 0]) Tryz.underlying62 hi hz0 .i64 .i64 (l.length : Int) (l.length : Int) (by omega) (Int.le_refl _) (by rw [hz2]; omega) (by omega)
    simpa [hz1, Value.cells] using h
  go_enter Tryz.func24, Tryz.ntmps24
  go_wp2_with fail
  go_loopw [4] (fun i wr => ∃ k : Nat, k ≤ l.length ∧ i = .int .i64 k ∧ PartF wr w.heap.size wr.heap.size w.heap.size l k ∧ Below w.heap.size w wr) (fun i _ => l.length - (intOf i).toNat)
  case atStart => exact ⟨0, Nat.zero_le _, rfl, (PartF.made w _ l _).grow (by simp), (Below.refl _ _).alloc (Nat.le_refl _) _⟩
  case round =>
    obtain ⟨k, hk, rfl, hp, hb⟩ := hrel
    have hzr := hb.size
    have hpl := hp.lt
    by_cases hlt : k < l.length
    · obtain ⟨b, o, rfl, hblt, c0, c1, v, c2, hv⟩ := hr.below hb k hlt
      obtain ⟨sa, sc, rfl, hcap, hrow⟩ := hv
      have k0 : (0 : Int) ≤ (k : Int) := by omega
      have k1 : (k : Int) < (l.length : Int) := by omega
      have hsk := hs k hlt
      go_wp2_with fail
      refine (toFeed_any l[k].1 l[k].2.1 sa sc l[k].2.2 _ hrow hsk).mono ?_
      rintro e w1 ⟨⟨b2, hb2, rfl, ho⟩, b1⟩
      have hp1 := hp.below b1
      obtain ⟨v0, hv0⟩ := hp1.cell (i := k * 3) (by omega)
      obtain ⟨v1, hv1⟩ := hp1.cell (i := k * 3 + 1) (by omega)
      obtain ⟨v2, hv2⟩ := hp1.cell (i := k * 3 + 2) (by omega)
      have hf0 := hp1.frozen (k * 3)
      have hf1 := hp1.frozen (k * 3 + 1)
      have hf2 := hp1.frozen (k * 3 + 2)
      have B1 : Below w.heap.size w w1 := hb.trans (b1.mono hzr)
      have hstep := hp1.step hlt hb2 (by omega) (by omega) (Nat.le_refl _) ho
      have hlt2 := ho.lt
      go_wp2_with fail
      exact ⟨⟨k + 1, by omega, by go_num, hstep.grow (by simp; omega), ((B1.setCell (Nat.le_refl _) _).setCell (Nat.le_refl _) _).setCell (Nat.le_refl _) _⟩, by simp [intOf]; omega⟩
    · obtain rfl : k = l.length := by omega
      go_wp2_with fail
      go_ret
      exact ⟨rfl, hp, hb⟩

set_option maxHeartbeats 1600000 in
theorem eqFeedS_same (a b : Option Addr) (ca cb : Nat) (l : List FeedV) (w : World) (hf : FitF l) (ha : RowF w a l) (hb : RowF w b l) :
    Calls Tryz.prog 29 #[.slice a l.length ca, .slice b l.length cb] w fun e w' => e = .returned (.bool true) ∧ Below w.heap.size w w' := by
  have hl := hf.1
  unfold maxLen at hl
  go_enter Tryz.func29, Tryz.ntmps29
  go_wp2_with fail
  go_loopw [5] (fun i wr => ∃ k : Nat, k ≤ l.length ∧ i = .int .i64 k ∧ Below w.heap.size w wr) (fun i _ => l.length - (intOf i).toNat)
  case atStart => exact ⟨0, Nat.zero_le _, rfl, Below.refl _ _⟩
  case round =>
    obtain ⟨k, hk, rfl, hbl⟩ := hrel
    by_cases hlt : k < l.length
    · obtain ⟨b1, o1, rfl, g1, e0, e1, v1, e2, ⟨s1, t1, rfl, _, r1⟩⟩ := ha.below hbl k hlt
      obtain ⟨b2, o2, rfl, g2, f0, f1, v2, f2, ⟨s2, t2, rfl, _, r2⟩⟩ := hb.below hbl k hlt
      have k0 : (0 : Int) ≤ (k : Int) := by omega
      have k1 : (k : Int) < (l.length : Int) := by omega
      have hlk := (hf.2 k hlt).1
      go_wp2_with fail
      refine wp_region_lat (by kernel_rfl) (by kernel_rfl) ?_
      have hne := Lat.some wr
      have q0 : ∀ n : Lat wr, n.w.cell? ⟨b1, o1 + k * 3, none⟩ = some (.int .i64 l[k].1) := fun n => n.cell g1 e0
      have q1 : ∀ n : Lat wr, n.w.cell? ⟨b1, o1 + k * 3 + 1, none⟩ = some (.int .i64 l[k].2.1) := fun n => n.cell g1 e1
      have q2 : ∀ n : Lat wr, n.w.cell? ⟨b1, o1 + k * 3 + 2, none⟩ = some (.slice s1 l[k].2.2.length t1) := fun n => n.cell g1 e2
      have q3 : ∀ n : Lat wr, n.w.cell? ⟨b2, o2 + k * 3, none⟩ = some (.int .i64 l[k].1) := fun n => n.cell g2 f0
      have q4 : ∀ n : Lat wr, n.w.cell? ⟨b2, o2 + k * 3 + 1, none⟩ = some (.int .i64 l[k].2.1) := fun n => n.cell g2 f1
      have q5 : ∀ n : Lat wr, n.w.cell? ⟨b2, o2 + k * 3 + 2, none⟩ = some (.slice s2 l[k].2.2.length t2) := fun n => n.cell g2 f2
      have ce : ∀ n : Lat wr, Calls Tryz.prog 14 #[.agg #[.int .i64 l[k].1, .int .i64 l[k].2.1, .slice s1 l[k].2.2.length t1], .agg #[.int .i64 l[k].1, .int .i64 l[k].2.1, .slice s2 l[k].2.2.length t2]] n.w fun e w'' => e = .returned (.bool true) ∧ Below n.w.heap.size n.w w'' := fun n => eqFeed_same _ _ _ _ _ _ _ _ hlk (r1.below n.h) (r2.below n.h)
      repeat (go_big_quiet_step ((go_at_call 14; exact Calls.lat_of (ce _))))
      refine wpQuiet_nil ?_
      rintro _ ⟨nq, rfl⟩
      go_wp2_with fail
      exact ⟨⟨k + 1, by omega, by go_num, hbl.trans (nq.h.mono hbl.size)⟩, by simp [intOf]; omega⟩
    · go_wp2_with fail
      go_ret
      exact ⟨rfl, hbl⟩

/-- From the 'k'-th on the feeds' marks lie each in a block of its own. -/
def RestF (w : World) (lo T g : Nat) (l : List FeedV) (k : Nat) : Prop :=
  ∃ (G C : Nat → Nat) (m : Nat) (f : Nat → Value), w.rowIs g 46 m f ∧ l.length * 3 ≤ m ∧
    (∀ j, (h : j < l.length) → k ≤ j → f (j * 3 + 2) = .slice (some ⟨G j, 0, none⟩) l[j].2.2.length (C j) ∧ Own w (G j) l[j].2.2 ∧ lo ≤ G j ∧ G j < T ∧ G j ≠ g) ∧ ∀ i j, i < l.length → j < l.length → i ≠ j → G i ≠ G j
theorem PartF.rest {w : World} {lo T g : Nat} {l : List FeedV} (h : PartF w lo T g l l.length) : RestF w lo T g l 0 := by
  obtain ⟨G, C, m, f, h, hm, hf, hd⟩ := h
  refine ⟨G, C, m, f, h, hm, fun j hj _ => ?_, hd⟩
  obtain ⟨h1, h2, h3, h4, h5, h6, h7, h8⟩ := hf j hj hj
  exact ⟨h3, h5, h6, h7, h8⟩
theorem RestF.turn {w : World} {lo T g : Nat} {l : List FeedV} {j : Nat} (h : RestF w lo T g l j) (hj : j < l.length) :
    ∃ b c, w.cell? ⟨g, j * 3 + 2, none⟩ = some (.slice (some ⟨b, 0, none⟩) l[j].2.2.length c) ∧ Own w b l[j].2.2 ∧ lo ≤ b ∧ b < T ∧ b ≠ g ∧ (∃ v, w.cell? ⟨g, j * 3, none⟩ = some v) ∧ (∃ v, w.cell? ⟨g, j * 3 + 1, none⟩ = some v) ∧ (∀ i, w.frozen? ⟨g, i, none⟩ = false) ∧ g < w.heap.size ∧
      ∀ (x y : Value) (w2 : World), But b ((w.setCell ⟨g, j * 3, none⟩ x).setCell ⟨g, j * 3 + 1, none⟩ y) w2 → RestF w2 lo T g l (j + 1) := by
  obtain ⟨G, C, m0, f, h, hm, hf, hd⟩ := h
  obtain ⟨f1, f2, f3, f4, f5⟩ := hf j hj (Nat.le_refl _)
  refine ⟨G j, C j, by rw [h.cell (by omega), f1], f2, f3, f4, f5, ⟨_, h.cell (by omega)⟩, ⟨_, h.cell (by omega)⟩, h.frozen, h.lt, fun x y w2 hb => ?_⟩
  have hg := h.lt
  refine ⟨G, C, m0, _, ((h.set (j * 3) x).set (j * 3 + 1) y).of_block (hb.block g (by simpa [World.setCell] using hg) (Ne.symm f5)), hm, fun i hi hk => ?_, hd⟩
  obtain ⟨i1, i2, i3, i4, i5⟩ := hf i hi (by omega)
  have e1 : i * 3 + 2 ≠ j * 3 := by omega
  have e2 : i * 3 + 2 ≠ j * 3 + 1 := by omega
  simp only [if_neg e1, if_neg e2]
  exact ⟨i1, hb.own ((i2.setOther i5 _ _).setOther i5 _ _) (hd i j hi hj (by omega)), i3, i4, i5⟩

set_option maxHeartbeats 1600000 in
theorem markFeedS_any (g cap lo T : Nat) (l : List FeedV) (k : Int) (w : World) (hlo : lo ≤ g) (hT : g < T) (hk0 : 0 ≤ k) (hk1 : k + 2 * (l.length : Int) + 2 * (lensF l : Int) ≤ 10000000) (hs : ∀ j, (h : j < l.length) → l[j].2.2.length ≤ 1048576) (hp : RestF w lo T g l 0) :
    Calls Tryz.prog 31 #[.slice (some ⟨g, 0, none⟩) l.length cap, .int .i64 k] w fun e w' => e = .returned (.int .i64 (k + 2 * (l.length : Int) + 2 * (lensF l : Int))) ∧ Span lo T w w' := by
  go_enter Tryz.func31, Tryz.ntmps31
  go_wp2_with fail
  go_loopw [1, 5] (fun kk i wr => ∃ (j n : Nat), j ≤ l.length ∧ i = .int .i64 j ∧ Hid (n = lensF (l.take j)) ∧ n ≤ lensF l ∧ kk = .int .i64 (k + 2 * (j : Int) + 2 * (n : Int)) ∧ RestF wr lo T g l j ∧ Span lo T w wr) (fun _ i _ => l.length - (intOf i).toNat)
  case atStart => exact ⟨0, 0, Nat.zero_le _, rfl, rfl, Nat.zero_le _, by simp, hp, Span.refl _ _ _⟩
  case round =>
    obtain ⟨j, n, hj, rfl, HN, hnl, rfl, hpj, hb⟩ := hrel
    by_cases hlt : j < l.length
    · have hN2 : n + l[j].2.2.length = lensF (l.take (j + 1)) := by rw [lensF_take hlt, ← HN.out]
      have hN3 := lensF_le (l := l) (j + 1)
      have HN2 : Hid (n + l[j].2.2.length = lensF (l.take (j + 1))) := hN2
      have hle : n + l[j].2.2.length ≤ lensF l := by omega
      have hsj := hs j hlt
      obtain ⟨b, c, c2, ho, g1, g2, g3, ⟨v0, c0⟩, ⟨v1, c1⟩, hfr, hgl, hturn⟩ := hpj.turn hlt
      have f0 := hfr (j * 3)
      have f1 := hfr (j * 3 + 1)
      have k0 : (0 : Int) ≤ (j : Int) := by omega
      have k1 : (j : Int) < (l.length : Int) := by omega
      have HT : Hid (∀ (x y : Value) (w2 : World), But b ((wr.setCell ⟨g, j * 3, none⟩ x).setCell ⟨g, j * 3 + 1, none⟩ y) w2 → RestF w2 lo T g l (j + 1)) := hturn
      clear hturn hN2 hN3 hfr
      go_wp2_with fail
      refine (markMarkS_any b c l[j].2.2.length (k + 2 * (j : Int) + 2 * (n : Int) + 1 + 1) _ hsj (by omega) (by omega) l[j].2.2 rfl ((ho.setOther g3 _ _).setOther g3 _ _)).mono ?_
      rintro e w1 ⟨rfl, ho1, hb1⟩
      have hnew := HT.out _ _ w1 hb1
      have hsp : Span lo T w w1 := ((hb.setCell hlo hT _ _).setCell hlo hT _ _).trans (hb1.span g1 g2)
      go_wp2_with fail
      exact ⟨⟨j + 1, n + l[j].2.2.length, by omega, by go_num, HN2, hle, by congr 1; omega, hnew, hsp⟩, by simp [intOf]; omega⟩
    · obtain rfl : j = l.length := by omega
      have HN2 : Hid (n = lensF l) := by rw [HN.out, List.take_of_length_le (Nat.le_refl _)]; rfl
      go_wp2_with fail
      go_ret
      exact ⟨by rw [HN2.out]; rfl, hb⟩

end Go.Proofs.YtpfhegengmlkmacGreatDoor
/- Mathematics: the join of a choice, stamp by stamp. -/
namespace Go.Proofs.YtpfhegengmlkmacGreatDoor

theorem isJ_stamp {a b m : List (ByteArray × Int)} {ok : Bool} (h : IsJ a b m ok) : StampP m := by
  cases ok
  · rw [h.none]; exact stampP_nil
  · exact h.fits.2.2.2

/-- The join of the stamps of the first k of a choice. -/
def JoinsTo (ws : List (List ItemL)) (ps : List Int) : Nat → List (ByteArray × Int) → Prop
  | 0, m => m = []
  | k + 1, m => ∃ q, JoinsTo ws ps k q ∧ IsJ q (pkM ws ps k) m true
theorem JoinsTo.one {ws : List (List ItemL)} {ps : List Int} : ∀ {k : Nat} {a b : List (ByteArray × Int)}, JoinsTo ws ps k a → JoinsTo ws ps k b → a = b
  | 0, a, b, h1, h2 => by rw [show a = [] from h1, show b = [] from h2]
  | k + 1, a, b, ⟨q, h1, h2⟩, ⟨q', h3, h4⟩ => by
    obtain rfl := h1.one h3
    exact (h2.one h4).1
theorem JoinsTo.pre {ws : List (List ItemL)} {ps : List Int} : ∀ {n : Nat} {m : List (ByteArray × Int)}, JoinsTo ws ps n m → ∀ k, k < n → ∃ q r, JoinsTo ws ps k q ∧ IsJ q (pkM ws ps k) r true
  | n + 1, m, ⟨q, h1, h2⟩, k, hk => by
    by_cases e : k = n
    · subst e; exact ⟨q, m, h1, h2⟩
    · exact h1.pre k (by omega)
theorem JoinsTo.stamp {ws : List (List ItemL)} {ps : List Int} : ∀ {k : Nat} {m : List (ByteArray × Int)}, JoinsTo ws ps k m → StampP m
  | 0, m, h => by rw [show m = [] from h]; exact stampP_nil
  | k + 1, m, ⟨q, _, h2⟩ => isJ_stamp h2
/-- Some stamp does not fit. -/
def JoinsNot (ws : List (List ItemL)) (ps : List Int) : Prop := ∃ k q m, k < ps.length ∧ JoinsTo ws ps k q ∧ IsJ q (pkM ws ps k) m false
/-- What the join of a choice is. -/
def IsCJ (ws : List (List ItemL)) (ps : List Int) (m : List (ByteArray × Int)) (ok : Bool) : Prop :=
  (ok = true ∧ ChP ws ps ∧ JoinsTo ws ps ps.length m) ∨ (ok = false ∧ m = [] ∧ (¬ ChP ws ps ∨ JoinsNot ws ps))
theorem joinsNot_not {ws : List (List ItemL)} {ps : List Int} {m : List (ByteArray × Int)} (h : JoinsNot ws ps) (hj : JoinsTo ws ps ps.length m) : False := by
  obtain ⟨k, q, r, hk, h1, h2⟩ := h
  obtain ⟨q', r', h3, h4⟩ := hj.pre k hk
  obtain rfl := h1.one h3
  have := (h2.one h4).2
  cases this
theorem IsCJ.one {ws : List (List ItemL)} {ps : List Int} {m m' : List (ByteArray × Int)} {ok ok' : Bool} (h : IsCJ ws ps m ok) (k : IsCJ ws ps m' ok') : m = m' ∧ ok = ok' := by
  rcases h with ⟨rfl, h1, h2⟩ | ⟨rfl, rfl, h2⟩
  · rcases k with ⟨rfl, k1, k2⟩ | ⟨rfl, rfl, k2⟩
    · exact ⟨h2.one k2, rfl⟩
    · rcases k2 with k2 | k2
      · exact absurd h1 k2
      · exact (joinsNot_not k2 h2).elim
  · rcases k with ⟨rfl, k1, k2⟩ | ⟨rfl, rfl, k2⟩
    · rcases h2 with h2 | h2
      · exact absurd k1 h2
      · exact (joinsNot_not h2 k2).elim
    · exact ⟨rfl, rfl⟩
theorem IsCJ.stamp {ws : List (List ItemL)} {ps : List Int} {m : List (ByteArray × Int)} {ok : Bool} (h : IsCJ ws ps m ok) : StampP m := by
  rcases h with ⟨rfl, _, h2⟩ | ⟨rfl, rfl, _⟩
  · exact h2.stamp
  · exact stampP_nil

end Go.Proofs.YtpfhegengmlkmacGreatDoor
/- Mathematics: what an item that comes to a gather's input leads to. -/
namespace Go.Proofs.YtpfhegengmlkmacGreatDoor

/-- The value of the item that a choice has from window k. -/
def pkV (ws : List (List ItemL)) (ps : List Int) (k : Nat) : Int := ((ws.getD k []).getD (ps.getD k 0).toNat (0, [])).1
def valsM (ws : List (List ItemL)) (ps : List Int) : List Int := (List.range ps.length).map (pkV ws ps)
theorem valsM_len (ws : List (List ItemL)) (ps : List Int) : (valsM ws ps).length = ps.length := by simp [valsM]
def emptyG : GatL := ⟨[], [], []⟩
/-- The gather may be, and the input is one of its own. -/
def InG (g : GatL) (i : Int) : Prop := GatP g ∧ 0 ≤ i ∧ i < (g.ins.length : Int)
/-- What comes of the windows as they are. -/
def ComeP (ws : List (List ItemL)) (sh : List (ByteArray × Int)) (sh' : List (ByteArray × Int)) (sv : List Int) (ss : List (ByteArray × Int)) (code : Int) : Prop :=
  ∃ out ok, BestP ws out ok ∧ ((ok = false ∧ sh' = sh ∧ sv = [] ∧ ss = [] ∧ code = 0) ∨ (ok = true ∧ ∃ j okj, IsCJ ws out j okj ∧
    ((okj = false ∧ sh' = sh ∧ sv = [] ∧ ss = [] ∧ code = 4) ∨ (okj = true ∧ ∃ o, IsOrd sh j o ∧
      ((o ≠ 1 ∧ sh' = sh ∧ sv = [] ∧ ss = [] ∧ code = 0) ∨ (o = 1 ∧ sh' = j ∧ sv = valsM ws out ∧ ss = j ∧ code = 1))))))
theorem ComeP.one {ws : List (List ItemL)} {sh s1 s2 t1 t2 : List (ByteArray × Int)} {v1 v2 : List Int} {c1 c2 : Int} (h : ComeP ws sh s1 v1 t1 c1) (k : ComeP ws sh s2 v2 t2 c2) : s1 = s2 ∧ v1 = v2 ∧ t1 = t2 ∧ c1 = c2 := by
  obtain ⟨o1, k1, b1, h⟩ := h
  obtain ⟨o2, k2, b2, k⟩ := k
  obtain ⟨rfl, rfl⟩ := b1.one b2
  rcases h with ⟨rfl, rfl, rfl, rfl, rfl⟩ | ⟨rfl, j1, x1, i1, h⟩
  · rcases k with ⟨_, rfl, rfl, rfl, rfl⟩ | ⟨e, _⟩
    · exact ⟨rfl, rfl, rfl, rfl⟩
    · cases e
  · rcases k with ⟨e, _⟩ | ⟨_, j2, x2, i2, k⟩
    · cases e
    · obtain ⟨rfl, rfl⟩ := i1.one i2
      rcases h with ⟨rfl, rfl, rfl, rfl, rfl⟩ | ⟨rfl, p1, q1, h⟩
      · rcases k with ⟨_, rfl, rfl, rfl, rfl⟩ | ⟨e, _⟩
        · exact ⟨rfl, rfl, rfl, rfl⟩
        · cases e
      · rcases k with ⟨e, _⟩ | ⟨_, p2, q2, k⟩
        · cases e
        · obtain rfl := q1.one q2
          rcases h with ⟨h1, rfl, rfl, rfl, rfl⟩ | ⟨h1, rfl, rfl, rfl, rfl⟩
          · rcases k with ⟨_, rfl, rfl, rfl, rfl⟩ | ⟨k1, _⟩
            · exact ⟨rfl, rfl, rfl, rfl⟩
            · exact absurd k1 h1
          · rcases k with ⟨k1, _⟩ | ⟨_, rfl, rfl, rfl, rfl⟩
            · exact absurd h1 k1
            · exact ⟨rfl, rfl, rfl, rfl⟩
/-- What the feed comes to. -/
def PutG (g : GatL) (i x : Int) (m : List (ByteArray × Int)) (g' : GatL) (sv : List Int) (ss : List (ByteArray × Int)) (code : Int) : Prop :=
  (¬ InG g i ∧ g' = emptyG ∧ sv = [] ∧ ss = [] ∧ code = 2) ∨ (InG g i ∧ ∃ r c, IsP (g.wins.getD i.toNat []) x m r c ∧
    ((c = 1 ∧ g' = emptyG ∧ sv = [] ∧ ss = [] ∧ code = 2) ∨ (c = 2 ∧ g' = g ∧ sv = [] ∧ ss = [] ∧ code = 3) ∨
      (c = 0 ∧ ∃ sh, ComeP (g.wins.set i.toNat r) g.shown sh sv ss code ∧ g' = ⟨g.ins, g.wins.set i.toNat r, sh⟩)))
theorem PutG.one {g g1 g2 : GatL} {i x c1 c2 : Int} {m s1 s2 : List (ByteArray × Int)} {v1 v2 : List Int} (h : PutG g i x m g1 v1 s1 c1) (k : PutG g i x m g2 v2 s2 c2) : g1 = g2 ∧ v1 = v2 ∧ s1 = s2 ∧ c1 = c2 := by
  rcases h with ⟨h0, rfl, rfl, rfl, rfl⟩ | ⟨h0, r1, d1, p1, h⟩
  · rcases k with ⟨_, rfl, rfl, rfl, rfl⟩ | ⟨k0, _⟩
    · exact ⟨rfl, rfl, rfl, rfl⟩
    · exact absurd k0 h0
  · rcases k with ⟨k0, _⟩ | ⟨_, r2, d2, p2, k⟩
    · exact absurd h0 k0
    · obtain ⟨rfl, rfl⟩ := p1.one p2
      rcases h with ⟨rfl, rfl, rfl, rfl, rfl⟩ | ⟨rfl, rfl, rfl, rfl, rfl⟩ | ⟨rfl, sh1, q1, rfl⟩
      · rcases k with ⟨_, rfl, rfl, rfl, rfl⟩ | ⟨e, _⟩ | ⟨e, _⟩
        · exact ⟨rfl, rfl, rfl, rfl⟩
        · omega
        · omega
      · rcases k with ⟨e, _⟩ | ⟨_, rfl, rfl, rfl, rfl⟩ | ⟨e, _⟩
        · omega
        · exact ⟨rfl, rfl, rfl, rfl⟩
        · omega
      · rcases k with ⟨e, _⟩ | ⟨e, _⟩ | ⟨_, sh2, q2, rfl⟩
        · omega
        · omega
        · obtain ⟨rfl, rfl, rfl, rfl⟩ := q1.one q2
          exact ⟨rfl, rfl, rfl, rfl⟩

theorem getD_get {α : Type} (l : List α) (d : α) {k : Nat} (h : k < l.length) : l.getD k d = l[k] := by simp [List.getD, h]
theorem winP_stamps {l : List ItemL} (h : WinP l) : StampsP l := ⟨by have := h.1; omega, fun j hj => (h.2.1 j hj).1⟩
theorem set_stamps {ws : List (List ItemL)} {k : Nat} {r : List ItemL} (h : ∀ l ∈ ws, StampsP l) (hr : StampsP r) : ∀ l ∈ ws.set k r, StampsP l := fun l hl => by
  rcases List.mem_or_eq_of_mem_set hl with h1 | h1
  · exact h l h1
  · exact h1 ▸ hr
theorem stamps_fitW {ws : List (List ItemL)} (h6 : ws.length ≤ 6) (h : ∀ l ∈ ws, StampsP l) : FitW ws := ⟨by unfold maxLen; omega, fun j hj => (h _ (List.getElem_mem hj)).fit⟩
/-- What an answer is like: few names, few windows, stamps alone. -/
structure NiceG (g : GatL) : Prop where
  ins : g.ins.length ≤ 6
  names : ∀ j, (h : j < g.ins.length) → g.ins[j].size ≤ 8
  wins : g.wins.length ≤ 6
  items : ∀ l ∈ g.wins, StampsP l
  shown : StampP g.shown
theorem emptyG_nice : NiceG emptyG := ⟨by simp [emptyG], fun j hj => by simp [emptyG] at hj, by simp [emptyG], fun l hl => by simp [emptyG] at hl, stampP_nil⟩
theorem GatP.nice {g : GatL} (h : GatP g) : NiceG g := by
  refine ⟨h.ins.2.1, fun j hj => (h.ins.2.2 j hj).1.2.1, ?_, fun l hl => ?_, h.shown⟩
  · have := h.ins.2.1; have := h.len; omega
  · obtain ⟨j, hj, rfl⟩ := List.mem_iff_getElem.1 hl
    exact winP_stamps (h.wins.2.2 j hj)
theorem best_in {ws : List (List ItemL)} {out : List Int} (h : BestP ws out true) : ChP ws out := by
  rcases h with ⟨_, h, _⟩ | ⟨e, _⟩
  · exact h
  · cases e
theorem ComeP.nice {ws : List (List ItemL)} {sh s1 t1 : List (ByteArray × Int)} {v1 : List Int} {c1 : Int} (h : ComeP ws sh s1 v1 t1 c1) (hs : StampP sh) : StampP s1 ∧ v1.length ≤ 6 ∧ StampP t1 := by
  obtain ⟨o1, k1, b1, h⟩ := h
  rcases h with ⟨rfl, rfl, rfl, rfl, rfl⟩ | ⟨rfl, j1, x1, i1, h⟩
  · exact ⟨hs, by simp, stampP_nil⟩
  · have hc := best_in b1
    have hl : o1.length ≤ 6 := by have := hc.2.1; have := hc.1.2.1; omega
    rcases h with ⟨rfl, rfl, rfl, rfl, rfl⟩ | ⟨rfl, p1, q1, h⟩
    · exact ⟨hs, by simp, stampP_nil⟩
    · rcases h with ⟨h1, rfl, rfl, rfl, rfl⟩ | ⟨h1, rfl, rfl, rfl, rfl⟩
      · exact ⟨hs, by simp, stampP_nil⟩
      · exact ⟨i1.stamp, by rw [valsM_len]; exact hl, i1.stamp⟩
theorem PutG.nice {g g1 : GatL} {i x c1 : Int} {m s1 : List (ByteArray × Int)} {v1 : List Int} (h : PutG g i x m g1 v1 s1 c1) : NiceG g1 ∧ v1.length ≤ 6 ∧ StampP s1 := by
  rcases h with ⟨h0, rfl, rfl, rfl, rfl⟩ | ⟨h0, r1, d1, p1, h⟩
  · exact ⟨emptyG_nice, by simp, stampP_nil⟩
  · have hn := h0.1.nice
    rcases h with ⟨rfl, rfl, rfl, rfl, rfl⟩ | ⟨rfl, rfl, rfl, rfl, rfl⟩ | ⟨rfl, sh1, q1, rfl⟩
    · exact ⟨emptyG_nice, by simp, stampP_nil⟩
    · exact ⟨hn, by simp, stampP_nil⟩
    · have hc := q1.nice hn.shown
      exact ⟨⟨hn.ins, hn.names, by simpa using hn.wins, set_stamps hn.items (isP_stamps p1), hc.1⟩, hc.2⟩

end Go.Proofs.YtpfhegengmlkmacGreatDoor
/- The walk of the law FnExactGatherNew. -/
namespace Go.Proofs.YtpfhegengmlkmacGreatDoor
open Go.RowKit Go.BigFrame
set_option maxRecDepth 100000

theorem eqN_any (a0 a1 a2 b0 b1 b2 : Option Addr) (c0 c1 c2 d0 d1 d2 : Nat) (nm : List ByteArray) (w : World) (hf : FitS nm) (h6 : nm.length ≤ 6) (r0 : RowS w a0 nm) (r1 : RowW w a1 (List.replicate nm.length [])) (q0 : RowS w b0 nm) (q1 : RowW w b1 (List.replicate nm.length [])) :
    Calls Tryz.prog 12 #[.agg #[.slice a0 nm.length c0, .slice a1 nm.length c1, .slice a2 0 c2], .agg #[.slice b0 nm.length d0, .slice b1 nm.length d1, .slice b2 0 d2]] w fun e w' => e = .returned (.bool true) ∧ Below w.heap.size w w' := by
  have h := eqGather_same a0 a1 a2 b0 b1 b2 c0 c1 c2 d0 d1 d2 (newG nm) w ⟨hf, ⟨by simp [newG]; unfold maxLen; omega, fun j hj => by
    have e : (newG nm).wins[j] = [] := by simp [newG]
    rw [e]
    exact ⟨by simp, fun i hi => by simp at hi⟩⟩, ⟨by simp [newG], fun j hj => by simp [newG] at hj⟩⟩ r0 r1 (fun k hk => absurd hk (Nat.not_lt_zero k)) q0 q1 (fun k hk => absurd hk (Nat.not_lt_zero k))
  simpa only [newG, List.length_replicate, List.length_nil] using h
theorem IsN.fit {ins nm : List ByteArray} {ok : Bool} (h : IsN ins nm ok) : FitS nm ∧ nm.length ≤ 6 := by
  rcases h with ⟨rfl, h1, rfl⟩ | ⟨rfl, _, rfl⟩
  · exact ⟨⟨by have := h1.2.1; unfold maxLen; omega, fun j hj => by have := (h1.2.2 j hj).1.2.1; unfold maxLen; omega⟩, h1.2.1⟩
  · exact ⟨⟨by simp, fun j hj => by simp at hj⟩, by simp⟩

theorem Tri.span {w w' : World} {b lo hi : Nat} {x y z : Value} (h : Tri w b x y z) (hs : Span lo hi w w') (hd : b < lo ∨ hi ≤ b) : Tri w' b x y z := by
  have hlt : b < w.heap.size := block_lt_of_cell h.c0
  have e := hs.block b hlt hd
  exact ⟨(World.cell?_of_block (a := ⟨b, 0, none⟩) e).trans h.c0, (World.cell?_of_block (a := ⟨b, 1, none⟩) e).trans h.c1, (World.cell?_of_block (a := ⟨b, 2, none⟩) e).trans h.c2, (World.frozen?_of_block (a := ⟨b, 0, none⟩) e).trans h.f0, (World.frozen?_of_block (a := ⟨b, 1, none⟩) e).trans h.f1, (World.frozen?_of_block (a := ⟨b, 2, none⟩) e).trans h.f2⟩

end Go.Proofs.YtpfhegengmlkmacGreatDoor
/- What a play of feeds comes to; an answer of GatherPlay in memory: marked, and held. -/
namespace Go.Proofs.YtpfhegengmlkmacGreatDoor
open Go.RowKit Go.BigFrame
set_option maxRecDepth 100000

/-- The feeds so far, from g0 on: the gather, the shows, and the codes. -/
inductive PlayTo (g0 : GatL) : List FeedV → GatL → List ShowV → List Int → Prop
  | nil : PlayTo g0 [] g0 [] []
  | snoc {fs : List FeedV} {g g1 : GatL} {sh : List ShowV} {cs : List Int} {f : FeedV} {sv : List Int} {ss : List (ByteArray × Int)} {c : Int} (h : PlayTo g0 fs g sh cs) (hp : PutG g f.1 f.2.1 f.2.2 g1 sv ss c) :
      PlayTo g0 (fs ++ [f]) (if c = 2 then g else g1) (if c = 1 then sh ++ [(sv, ss)] else sh) (cs ++ [c])
theorem PlayTo.inv {g0 : GatL} {l : List FeedV} {g : GatL} {sh : List ShowV} {cs : List Int} (h : PlayTo g0 l g sh cs) :
    (l = [] ∧ g = g0 ∧ sh = [] ∧ cs = []) ∨ ∃ fs f gp shp csp g1 sv ss c, l = fs ++ [f] ∧ PlayTo g0 fs gp shp csp ∧ PutG gp f.1 f.2.1 f.2.2 g1 sv ss c ∧ g = (if c = 2 then gp else g1) ∧ sh = (if c = 1 then shp ++ [(sv, ss)] else shp) ∧ cs = csp ++ [c] := by
  cases h with
  | nil => exact .inl ⟨rfl, rfl, rfl, rfl⟩
  | snoc h hp => exact .inr ⟨_, _, _, _, _, _, _, _, _, rfl, h, hp, rfl, rfl, rfl⟩
/-- It comes to one thing alone. -/
theorem PlayTo.one {g0 : GatL} {l : List FeedV} {g : GatL} {sh : List ShowV} {cs : List Int} (h : PlayTo g0 l g sh cs) : ∀ {g' : GatL} {sh' : List ShowV} {cs' : List Int}, PlayTo g0 l g' sh' cs' → g = g' ∧ sh = sh' ∧ cs = cs' := by
  induction h with
  | nil =>
    intro g' sh' cs' k
    rcases k.inv with ⟨_, h1, h2, h3⟩ | ⟨fs, f, _, _, _, _, _, _, _, e, _⟩
    · exact ⟨h1.symm, h2.symm, h3.symm⟩
    · simp at e
  | snoc h hp ih =>
    intro g' sh' cs' k
    rcases k.inv with ⟨e, _⟩ | ⟨fs, f, gp, shp, csp, g1, sv, ss, c, e, k1, k2, k3, k4, k5⟩
    · simp at e
    · obtain ⟨e1, e2⟩ := List.append_inj' e rfl
      simp only [List.cons.injEq, and_true] at e2
      subst e1 e2
      obtain ⟨i1, i2, i3⟩ := ih k1
      subst i1 i2 i3
      obtain ⟨j1, j2, j3, j4⟩ := hp.one k2
      subst j1 j2 j3 j4
      exact ⟨k3.symm, k4.symm, k5.symm⟩
theorem PlayTo.nice {g0 : GatL} {l : List FeedV} {g : GatL} {sh : List ShowV} {cs : List Int} (h0 : NiceG g0) (h : PlayTo g0 l g sh cs) : NiceG g ∧ FewH sh ∧ cs.length = l.length ∧ sh.length ≤ l.length := by
  induction h with
  | nil => exact ⟨h0, fun p hp => by simp at hp, rfl, Nat.le_refl _⟩
  | snoc h hp ih =>
    obtain ⟨i1, i2, i3, i4⟩ := ih
    obtain ⟨j1, j2, j3⟩ := hp.nice
    refine ⟨?_, ?_, by simp [i3], ?_⟩
    · split
      · exact i1
      · exact j1
    · split
      · intro p hp'
        rcases List.mem_append.1 hp' with h1 | h1
        · exact i2 p h1
        · obtain rfl : p = _ := by simpa using h1
          exact ⟨j2, j3.1⟩
      · exact i2
    · split
      · simp; omega
      · simp; omega
/-- What GatherPlay answers. -/
def PlayR (ins : List ByteArray) (fs : List FeedV) (sh : List ShowV) (cs : List Int) : Prop :=
  ∃ nm ok, IsN ins nm ok ∧ ((ok = true ∧ fs.length ≤ 60 ∧ ∃ g, PlayTo (newG nm) fs g sh cs) ∨ ((ok = false ∨ 60 < fs.length) ∧ sh = [] ∧ cs = []))
theorem newG_nice {ins nm : List ByteArray} (h : IsN ins nm true) : NiceG (newG nm) := by
  rcases h with ⟨_, h1, rfl⟩ | ⟨e, _, _⟩
  · refine ⟨h1.2.1, fun j hj => (h1.2.2 j hj).1.2.1, by simp [newG]; exact h1.2.1, fun l hl => ?_, stampP_nil⟩
    obtain rfl : l = [] := by
      have := List.eq_of_mem_replicate (show l ∈ List.replicate _ [] from hl)
      exact this
    exact ⟨by simp, fun j hj => by simp at hj⟩
  · cases e
theorem PlayR.one {ins : List ByteArray} {fs : List FeedV} {sh sh' : List ShowV} {cs cs' : List Int} (h : PlayR ins fs sh cs) (k : PlayR ins fs sh' cs') : sh = sh' ∧ cs = cs' := by
  obtain ⟨nm, ok, h1, h2⟩ := h
  obtain ⟨nm', ok', k1, k2⟩ := k
  obtain ⟨e1, e2⟩ := h1.one k1
  subst e1 e2
  rcases h2 with ⟨rfl, hl, g, h2⟩ | ⟨hn, rfl, rfl⟩
  · rcases k2 with ⟨_, _, g', k2⟩ | ⟨kn, _, _⟩
    · exact (h2.one k2).2
    · rcases kn with e | e
      · cases e
      · omega
  · rcases k2 with ⟨rfl, kl, g', k2⟩ | ⟨_, rfl, rfl⟩
    · rcases hn with e | e
      · cases e
      · omega
    · exact ⟨rfl, rfl⟩
theorem PlayR.few {ins : List ByteArray} {fs : List FeedV} {sh : List ShowV} {cs : List Int} (h : PlayR ins fs sh cs) : FewH sh ∧ cs.length ≤ 60 ∧ sh.length ≤ 60 := by
  obtain ⟨nm, ok, h1, h2⟩ := h
  rcases h2 with ⟨rfl, hl, g, h2⟩ | ⟨hn, rfl, rfl⟩
  · obtain ⟨_, i2, i3, i4⟩ := h2.nice (newG_nice h1)
    exact ⟨i2, by omega, by omega⟩
  · exact ⟨fun p hp => by simp at hp, by simp, by simp⟩

theorem NumB.blk {w w' : World} {g : Nat} {l : List Int} (h : NumB w g l) (e : w'.heap[g]? = w.heap[g]?) : NumB w' g l := by
  obtain ⟨m, f, h, hf⟩ := h
  exact ⟨m, f, h.of_block e, hf⟩
/-- The shows and the codes of an answer lie between two blocks. -/
structure PlyA (w : World) (lo hi : Nat) (sa ca : Option Addr) (L : List ShoY) (cs : List Int) : Prop where
  sh : L = [] ∨ ∃ t, sa = some ⟨t, 0, none⟩ ∧ lo ≤ t ∧ t < hi ∧ HW w lo hi t L ∧ (∀ c, ca = some ⟨c, 0, none⟩ → c ≠ t)
  co : cs = [] ∨ ∃ c, ca = some ⟨c, 0, none⟩ ∧ lo ≤ c ∧ c < hi ∧ NumB w c cs ∧ ∀ p ∈ L, c < p.lo ∨ p.hi ≤ c
theorem PlyA.below {w w' : World} {lo hi : Nat} {sa ca : Option Addr} {L : List ShoY} {cs : List Int} (h : PlyA w lo hi sa ca L cs) (hb : Below w.heap.size w w') : PlyA w' lo hi sa ca L cs := by
  refine ⟨?_, ?_⟩
  · rcases h.sh with e | ⟨t, e, h1, h2, h3, h4⟩
    · exact .inl e
    · exact .inr ⟨t, e, h1, h2, h3.below hb, h4⟩
  · rcases h.co with e | ⟨c, e, h1, h2, h3, h4⟩
    · exact .inl e
    · exact .inr ⟨c, e, h1, h2, h3.below hb, h4⟩
theorem PlyA.span {w w' : World} {lo hi lo' hi' : Nat} {sa ca : Option Addr} {L : List ShoY} {cs : List Int} (h : PlyA w lo hi sa ca L cs) (hs : Span lo' hi' w w') (hd : hi ≤ lo' ∨ hi' ≤ lo) : PlyA w' lo hi sa ca L cs := by
  refine ⟨?_, ?_⟩
  · rcases h.sh with e | ⟨t, e, h1, h2, h3, h4⟩
    · exact .inl e
    · exact .inr ⟨t, e, h1, h2, h3.span hs (by omega) (fun p hp => by have := h3.in_ p hp; have := (h3.at_ p hp).o1; have := (h3.at_ p hp).o2; omega), h4⟩
  · rcases h.co with e | ⟨c, e, h1, h2, h3, h4⟩
    · exact .inl e
    · exact .inr ⟨c, e, h1, h2, h3.span hs (by omega), h4⟩
theorem PlyA.rows {w : World} {lo hi : Nat} {sa ca : Option Addr} {L : List ShoY} {cs : List Int} (h : PlyA w lo hi sa ca L cs) : RowH w sa (L.map (·.sv)) ∧ RowZ w ca cs := by
  refine ⟨?_, ?_⟩
  · rcases h.sh with rfl | ⟨t, rfl, _, _, h3, _⟩
    · exact fun k hk => by simp at hk
    · exact h3.row
  · rcases h.co with rfl | ⟨c, rfl, _, _, h3, _⟩
    · exact fun k hk => absurd hk (Nat.not_lt_zero k)
    · exact h3.row
theorem FewH.y {L : List ShoY} (h : FewH (L.map (·.sv))) : FewY L := fun p hp => h p.sv (List.mem_map.2 ⟨p, hp, rfl⟩)

theorem markPlyA_any (sa ca : Option Addr) (cap lo hi : Nat) (L : List ShoY) (cs : List Int) (k : Int) (w : World) (h6 : L.length ≤ 100) (hL : FewY L) (hM : ∀ p ∈ L, p.mid ≤ p.mi2) (hk0 : 0 ≤ k) (hk1 : k ≤ 1000000) (h : PlyA w lo hi sa ca L cs) :
    Calls Tryz.prog 32 #[.slice sa L.length cap, .int .i64 k] w fun e w' => e = .returned (.int .i64 (kH k L.length L)) ∧ PlyA w' lo hi sa ca (mixH k L.length L) cs ∧ Span lo hi w w' := by
  rcases h.sh with rfl | ⟨t, rfl, h1, h2, h3, h4⟩
  · refine (markShowS_none sa cap k w).mono ?_
    rintro e w' ⟨rfl, rfl⟩
    exact ⟨by simp [kH], ⟨.inl (by simp [mixH]), by simpa [mixH] using h.co⟩, Span.refl _ _ _⟩
  · refine (markHW_any t cap lo hi L k w h6 hL hM hk0 hk1 h3).mono ?_
    rintro e w' ⟨rfl, hw, hk⟩
    have hin : ∀ p ∈ L, lo ≤ p.lo ∧ p.hi ≤ hi := h3.in_
    refine ⟨rfl, ⟨.inr ⟨t, rfl, h1, h2, hw, h4⟩, ?_⟩, hk.span hin⟩
    rcases h.co with e | ⟨c, e, j1, j2, j3, j4⟩
    · exact .inl e
    · refine .inr ⟨c, e, j1, j2, j3.blk (hk.block c j3.lt j4), fun p hp => ?_⟩
      obtain ⟨q, hq, e1, e2⟩ := mixH_same hp
      rw [e1, e2]
      exact j4 q hq
theorem markPlyC_any (sa ca : Option Addr) (cap lo hi : Nat) (L : List ShoY) (cs : List Int) (k : Int) (w : World) (h6 : cs.length ≤ 100) (hk0 : 0 ≤ k) (hk1 : k ≤ 1000000) (h : PlyA w lo hi sa ca L cs) :
    Calls Tryz.prog 33 #[.slice ca cs.length cap, .int .i64 k] w fun e w' => e = .returned (.int .i64 (k + (cs.length : Int))) ∧ PlyA w' lo hi sa ca L (numsZ k cs.length) ∧ Span lo hi w w' := by
  rcases h.co with rfl | ⟨c, rfl, h1, h2, h3, h4⟩
  · refine (markSafeZ_any ca cap 0 0 [] k w (by simp) hk0 (by omega) (.inl rfl)).mono ?_
    rintro e w' ⟨rfl, _, hs⟩
    have hs' : Span lo hi w w' := ⟨hs.os, hs.tape, hs.output, hs.size, fun i hi _ => hs.block i hi (by omega)⟩
    have hb : Below w.heap.size w w' := ⟨hs.os, hs.tape, hs.output, hs.size, fun i hi => hs.block i hi (by omega)⟩
    exact ⟨by simp, by simpa [numsZ] using h.below hb, hs'⟩
  · refine (markIntS_num c cap cs k w (by omega) hk0 (by omega) h3).mono ?_
    rintro e w' ⟨rfl, hn, hb⟩
    have hs : Span c (c + 1) w w' := hb.span (Nat.le_refl _) (Nat.lt_succ_self _)
    refine ⟨rfl, ⟨?_, .inr ⟨c, rfl, h1, h2, hn, h4⟩⟩, hs.wide h1 (by omega)⟩
    rcases h.sh with e | ⟨t, e, j1, j2, j3, j4⟩
    · exact .inl e
    · have hct := j4 c rfl
      exact .inr ⟨t, e, j1, j2, j3.span hs (by omega) (fun p hp => by have := h4 p hp; omega), fun c' e' => by cases e'; exact hct⟩

/-- The answer is marked. -/
structure MarA (K M : Int) (w : World) (lo hi : Nat) (sa ca : Option Addr) (L : List ShoY) (cs : List Int) : Prop where
  few : FewY L
  l60 : L.length ≤ 100
  c60 : cs.length ≤ 100
  ke : K = kH 1 L.length L
  me : M = K + (cs.length : Int)
  a : PlyA w lo hi sa ca (mixH 1 L.length L) (numsZ K cs.length)
theorem MarA.below {K M : Int} {w w' : World} {lo hi : Nat} {sa ca : Option Addr} {L : List ShoY} {cs : List Int} (h : MarA K M w lo hi sa ca L cs) (hb : Below w.heap.size w w') : MarA K M w' lo hi sa ca L cs := { h with a := h.a.below hb }
theorem MarA.bounds {K M : Int} {w : World} {lo hi : Nat} {sa ca : Option Addr} {L : List ShoY} {cs : List Int} (h : MarA K M w lo hi sa ca L cs) : 0 ≤ K ∧ K ≤ 10000 ∧ 0 ≤ M := by
  have h1 := kH_le h.few L.length 1 (Nat.le_refl _)
  have h2 := h.ke
  have h3 := h.me
  have h4 := h.l60
  omega
theorem heldPlyA_any {K M : Int} {w : World} {lo hi : Nat} {sa ca : Option Addr} {L : List ShoY} {cs : List Int} (cap : Nat) (h : MarA K M w lo hi sa ca L cs) : Calls Tryz.prog 34 #[.slice sa L.length cap, .int .i64 1] w fun e w' => e = .returned (.int .i64 K) ∧ Below w.heap.size w w' := by
  have hk := h.ke
  subst hk
  exact heldHW_any sa cap L 1 w h.l60 h.few (by omega) (by omega) h.a.rows.1
theorem heldPlyC_any {K M : Int} {w : World} {lo hi : Nat} {sa ca : Option Addr} {L : List ShoY} {cs : List Int} (cap : Nat) (h : MarA K M w lo hi sa ca L cs) : Calls Tryz.prog 35 #[.slice ca cs.length cap, .int .i64 K] w fun e w' => e = .returned (.int .i64 M) ∧ Below w.heap.size w w' := by
  have hb := h.bounds
  have hm := h.me
  subst hm
  have h6 := h.c60
  exact heldIntS_any ca cap cs.length K w (by omega) hb.1 (by omega) h.a.rows.2

end Go.Proofs.YtpfhegengmlkmacGreatDoor
/- A region that draws its order, by an invariant over which of its operations are done. -/
namespace Go.Proofs.YtpfhegengmlkmacGreatDoor
open Go.RowKit

/-- What operation i waits for. -/
def waits (ops : Array Oper) (i : Nat) : List Nat := match ops[i]? with
  | none => []
  | some o => (o.after.toList.filter (Region.binds .any)).map (·.on)
/-- Each waits for earlier ones alone. -/
def earlier (ops : Array Oper) : Bool := (List.range ops.size).all fun i => (waits ops i).all fun j => decide (j < i)

theorem mem_ready {ops : Array Oper} {listed : Array Bool} {i : Nat} : i ∈ Region.ready .any ops listed ↔ i < ops.size ∧ listed.getD i true = false ∧ ∀ j ∈ waits ops i, listed.getD j false = true := by
  unfold Region.ready waits
  rw [List.mem_filter, List.mem_range]
  refine and_congr_right fun hi => ?_
  rw [Array.getElem?_eq_getElem hi]
  simp only [Option.map_some, Option.getD_some, Bool.and_eq_true, Bool.not_eq_true', List.mem_map, List.mem_filter]
  refine and_congr_right fun _ => ?_
  rw [Array.all_eq_true']
  constructor
  · rintro h j ⟨e, ⟨he, hb⟩, rfl⟩
    have := h e (by simpa using he)
    simpa [hb] using this
  · intro h e he
    by_cases hb : Region.binds .any e = true
    · simpa [hb] using h e.on ⟨e, ⟨by simpa using he, hb⟩, rfl⟩
    · simp [hb]

/-- f, and operation i done. -/
def andDone (f : Nat → Bool) (i : Nat) : Nat → Bool := fun k => if k = i then true else f k
theorem andDone_same (f : Nat → Bool) (i : Nat) : andDone f i i = true := if_pos rfl
theorem andDone_other (f : Nat → Bool) {i k : Nat} (h : k ≠ i) : andDone f i k = f k := if_neg h
/-- How many are still to come. -/
def toCome (n : Nat) (f : Nat → Bool) : Nat := ((List.range n).filter fun k => !f k).length
theorem toCome_step {n i : Nat} {f : Nat → Bool} (hi : i < n) (h : f i = false) : toCome n (andDone f i) < toCome n f := by
  unfold toCome
  have e : ((List.range n).filter fun k => !andDone f i k) = ((List.range n).filter fun k => !f k).filter fun k => decide (k ≠ i) := by
    rw [List.filter_filter]
    refine List.filter_congr fun k _ => ?_
    by_cases hk : k = i
    · subst hk; simp [andDone]
    · simp [andDone, hk]
  rw [e]
  refine List.length_filter_lt_length_iff_exists.2 ⟨i, ?_, by simp⟩
  simp [List.mem_filter, hi, h]
theorem earlier_spec {ops : Array Oper} (h : earlier ops = true) {i j : Nat} (hi : i < ops.size) (hj : j ∈ waits ops i) : j < i := by
  have h1 := List.all_eq_true.1 h i (List.mem_range.2 hi)
  simpa using List.all_eq_true.1 h1 j hj

/-- One obligation an operation. -/
theorem wpAny_inv {P : Program} {ops : Array Oper} {Q : Exit → Act → World → Prop} (Inv : (Nat → Bool) → Act → World → Prop) (he : earlier ops = true)
    (hstep : ∀ f a w i, Inv f a w → i < ops.size → f i = false → (∀ j ∈ waits ops i, f j = true) → wpOp P ops Q i (Inv (andDone f i)) a w)
    (hend : ∀ f a w, Inv f a w → (∀ i, i < ops.size → f i = true) → Q .normal a w) :
    ∀ (fuel : Nat) (listed : Array Bool) (f : Nat → Bool) (a : Act) (w : World), listed.size = ops.size → (∀ i, (h : i < listed.size) → listed[i] = f i) → toCome ops.size f ≤ fuel → Inv f a w → wpAny P .any ops Q fuel listed a w := by
  have hget : ∀ {listed : Array Bool} {f : Nat → Bool}, listed.size = ops.size → (∀ i, (h : i < listed.size) → listed[i] = f i) → ∀ i d, i < ops.size → listed.getD i d = f i := fun {listed f} hs hl i d hi => by
    rw [Array.getD_eq_getD_getElem?, Array.getElem?_eq_getElem (by omega)]
    exact hl i (by omega)
  have hall : ∀ {listed : Array Bool} {f : Nat → Bool}, listed.size = ops.size → (∀ i, (h : i < listed.size) → listed[i] = f i) → Region.ready .any ops listed = [] → ∀ i, i < ops.size → f i = true := fun {listed f} hs hl hr i => by
    induction i using Nat.strongRecOn with
    | _ i ih =>
      intro hi
      refine Classical.byContradiction fun hn => ?_
      have hm : i ∈ Region.ready .any ops listed := mem_ready.2 ⟨hi, by rw [hget hs hl i true hi]; simpa using hn, fun j hj => by
        have hji := earlier_spec he hi hj
        rw [hget hs hl j false (by omega)]
        exact ih j hji (by omega)⟩
      rw [hr] at hm
      simp at hm
  intro fuel
  induction fuel with
  | zero =>
    intro listed f a w hs hl hc hI
    have hr : Region.ready .any ops listed = [] := by
      refine List.eq_nil_iff_forall_not_mem.2 fun i hi => ?_
      obtain ⟨h1, h2, _⟩ := mem_ready.1 hi
      rw [hget hs hl i true h1] at h2
      have := toCome_step h1 h2
      omega
    exact ⟨hr, hend f a w hI (hall hs hl hr)⟩
  | succ fuel ih =>
    intro listed f a w hs hl hc hI
    refine ⟨fun hr => hend f a w hI (hall hs hl hr), fun i hi => ?_⟩
    obtain ⟨h1, h2, h3⟩ := mem_ready.1 hi
    rw [hget hs hl i true h1] at h2
    have h4 : ∀ j ∈ waits ops i, f j = true := fun j hj => by
      have hji := earlier_spec he h1 hj
      rw [← hget hs hl j false (by omega)]
      exact h3 j hj
    have hlt := toCome_step h1 h2
    have hk : ∀ a' w', Inv (andDone f i) a' w' → wpAny P .any ops Q fuel (listed.setIfInBounds i true) a' w' := fun a' w' h' => ih _ (andDone f i) a' w' (by simpa using hs) (fun k hk' => by
      have hk2 : k < listed.size := by simpa using hk'
      rw [Array.getElem_setIfInBounds (by simpa using hk2)]
      by_cases e : i = k
      · subst e; simp [andDone]
      · rw [if_neg e, andDone_other f (fun h => e h.symm)]
        exact hl k hk2) (by omega) h'
    have hs' := hstep f a w i hI h1 h2 h4
    unfold wpOp at hs' ⊢
    split
    · rename_i ho
      rw [ho] at hs'
      exact hk _ _ hs'
    · rename_i o ho
      rw [ho] at hs'
      simp only at hs'
      split
      · rename_i hw
        rw [if_pos hw] at hs'
        rcases hs' with h | h
        · exact .inl (Oper.wp_mono hk h)
        · exact .inr h
      · rename_i hw
        rw [if_neg hw] at hs'
        exact hk _ _ hs'

theorem wp_region_inv {P : Program} {id : Nat} {ops : Array Oper} {Q : Exit → Act → World → Prop} {a : Act} {w : World} (hm : P.follows .mixedOrders = true) (he : earlier ops = true) (Inv : (Nat → Bool) → Act → World → Prop) (h0 : Inv (fun _ => false) a w.drew)
    (hstep : ∀ f a w i, Inv f a w → i < ops.size → f i = false → (∀ j ∈ waits ops i, f j = true) → wpOp P ops Q i (Inv (andDone f i)) a w)
    (hend : ∀ f a w, Inv f a w → (∀ i, i < ops.size → f i = true) → Q .normal a w) : (Code.region id ops true).wp P Q a w :=
  wp_region_any hm (wpAny_inv Inv he hstep hend ops.size _ (fun _ => false) a _ (by simp) (fun i hi => by simp) (by unfold toCome; exact Nat.le_trans (List.length_filter_le _ _) (by simp)) h0)
/-- An operation without a guard, or whose guard lets it. -/
theorem wpOp_wanted {P : Program} {ops : Array Oper} {Q : Exit → Act → World → Prop} {K : Act → World → Prop} {i : Nat} {a : Act} {w : World} {o : Oper} (ho : ops[i]? = some o) (hw : Region.wanted o (yielded ops a.tmps) = true) (h : o.wp P a w K Q) : wpOp P ops Q i K a w := by
  unfold wpOp
  rw [ho]
  simp only
  rw [if_pos hw]
  exact .inl h

end Go.Proofs.YtpfhegengmlkmacGreatDoor
