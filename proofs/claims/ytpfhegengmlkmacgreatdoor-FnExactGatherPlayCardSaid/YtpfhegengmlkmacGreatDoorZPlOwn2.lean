/- Texts of this claim, one behind the other. -/
import Derived.Test.YtpfhegengmlkmacGreatDoorWinM
import Derived.Test.YtpfhegengmlkmacGreatDoorWinS
import Derived.Test.YtpfhegengmlkmacGreatDoorClone
import Derived.Deep.RegionHeld3
import Derived.Test.YtpfhegengmlkmacGreatDoorItK
import Derived.Test.YtpfhegengmlkmacGreatDoorZPlOwn1
/- Walks: (Item).ok, sameSources. -/
namespace Go.Proofs.YtpfhegengmlkmacGreatDoor
open Go.RowKit Go.Shelf Go.BigFrame
attribute [local go_sem] Oper.semAt_some

set_option maxHeartbeats 400000 in
theorem itemOk_any (x : Int) (a : Option Addr) (c : Nat) (l : List (ByteArray × Int)) (w : World) (hr : Row w a l) (hf : FitM l) :
    Calls Tryz.prog 128 #[.agg #[.int .i64 x, .slice a l.length c]] w fun e w' => IsB (StampP l ∧ l ≠ []) e ∧ Below w.heap.size w w' := by
  have hb0 : Below w.heap.size w (w.alloc (.cells #[.int .i64 x, .slice a l.length c] 44)) := (Below.refl _ _).alloc (Nat.le_refl _) _
  have hl := hf.1
  unfold maxLen at hl
  by_cases h0 : 0 < l.length
  · have HN : Hid (l ≠ []) := fun h => by rw [h] at h0; exact absurd h0 (Nat.lt_irrefl 0)
    go_enter Tryz.func128, Tryz.ntmps128
    go_wp2_with fail
    refine (implStampOk_any a c l _ hf.1 (hr.below hb0) hf.2).mono ?_
    rintro e w1 ⟨⟨r, rfl, hr1⟩, b1⟩
    have HR : Hid (r = true ↔ StampP l) := hr1
    clear hr1
    go_wp2_with fail
    go_ret
    exact ⟨⟨r, rfl, by rw [HR.out]; exact ⟨fun h => ⟨h, HN.out⟩, fun h => h.1⟩⟩, hb0.trans (b1.mono hb0.size)⟩
  · obtain rfl : l = [] := List.length_eq_zero_iff.1 (by omega)
    go_enter Tryz.func128, Tryz.ntmps128
    go_wp2_with fail
    go_ret
    exact ⟨isB_false (fun h => h.2 rfl), hb0⟩

/-- All versions 1. -/
def ones (l : List (ByteArray × Int)) : List (ByteArray × Int) := l.map fun m => (m.1, 1)
theorem ones_sorted {l : List (ByteArray × Int)} (h : Sorted l) : Sorted (ones l) := by
  refine ⟨?_, fun m hm => ?_⟩
  · unfold ones
    rw [List.pairwise_map]
    exact h.1
  · unfold ones at hm
    obtain ⟨x, _, rfl⟩ := List.mem_map.1 hm
    exact Int.le_refl _
theorem ones_get {l : List (ByteArray × Int)} (h : Sorted l) (s : ByteArray) : getM (ones l) s = if 0 < getM l s then 1 else 0 := by
  by_cases hp : 0 < getM l s
  · rw [if_pos hp]
    have hm : (s, (1 : Int)) ∈ ones l := List.mem_map.2 ⟨_, getM_pos hp, rfl⟩
    exact getM_mem (ones_sorted h) hm
  · rw [if_neg hp]
    have h0 := getM_nonneg (s := s) (ones_sorted h)
    by_cases hq : 0 < getM (ones l) s
    · exfalso
      unfold ones at hq
      obtain ⟨x, hx, e⟩ := List.mem_map.1 (getM_pos hq)
      have e1 : x.1 = s := (Prod.mk.inj e).1
      have e2 := getM_mem h hx
      have e3 := h.2 x hx
      rw [e1] at e2
      omega
    · omega
theorem names_ext {a b : List (ByteArray × Int)} (ha : Sorted a) (hb : Sorted b) (h : ∀ s, 0 < getM a s ↔ 0 < getM b s) : namesM a = namesM b := by
  have e : ones a = ones b := sorted_ext (ones_sorted ha) (ones_sorted hb) fun s => by
    rw [ones_get ha, ones_get hb]
    by_cases hp : 0 < getM a s
    · rw [if_pos hp, if_pos ((h s).1 hp)]
    · rw [if_neg hp, if_neg (fun q => hp ((h s).2 q))]
  have e2 := congrArg namesM e
  simpa [namesM, ones, Function.comp_def] using e2

/-- A source that not both have. -/
def Alone (x : (ByteArray × Int) × (ByteArray × Int)) : Prop := ¬ (0 < x.1.2 ∧ 0 < x.2.2)
theorem names_of_pairs {a b : List (ByteArray × Int)} {P : List ((ByteArray × Int) × (ByteArray × Int))} (ha : StampP a) (hb : StampP b) (hP : PSpec a b P) (h : ∀ p ∈ P, ¬ Alone p) : namesM a = namesM b := by
  have sa := stamp_sorted ha
  have sb := stamp_sorted hb
  refine names_ext sa sb fun s => ?_
  constructor
  · intro h1
    obtain ⟨p, hm, hp⟩ := hP.all s (.inl h1)
    obtain ⟨p1, p2, _⟩ := hP.mem p hm
    have := Classical.not_not.1 (h p hm)
    rw [p1, p2, hp] at this
    exact this.2
  · intro h1
    obtain ⟨p, hm, hp⟩ := hP.all s (.inr h1)
    obtain ⟨p1, p2, _⟩ := hP.mem p hm
    have := Classical.not_not.1 (h p hm)
    rw [p1, p2, hp] at this
    exact this.1
theorem not_names_of_alone {a b : List (ByteArray × Int)} {P : List ((ByteArray × Int) × (ByteArray × Int))} (ha : StampP a) (hb : StampP b) (hP : PSpec a b P) {p : (ByteArray × Int) × (ByteArray × Int)} (hm : p ∈ P) (h : Alone p) : ¬ namesM a = namesM b := by
  intro e
  obtain ⟨p1, p2, p3⟩ := hP.mem p hm
  refine h ?_
  have hn := names_get ha hb e p.1.1
  rw [p1, p2] at p3
  simp only at p3
  rw [p1, p2]
  simp only
  rcases p3 with h3 | h3
  · exact ⟨h3, hn.1 h3⟩
  · exact ⟨hn.2 h3, h3⟩

set_option maxRecDepth 100000 in
set_option maxHeartbeats 4000000 in
theorem same_any (aa ab : Option Addr) (ca cb : Nat) (la lb : List (ByteArray × Int)) (w : World) (hca : la.length ≤ ca) (hcb : lb.length ≤ cb) (ha : Row w aa la) (hb : Row w ab lb) (hya : StampP la) (hyb : StampP lb) :
    Calls Tryz.prog 169 #[.slice aa la.length ca, .slice ab lb.length cb] w fun e w' => IsB (namesM la = namesM lb) e ∧ Below w.heap.size w w' := by
  refine (callsIn_wide (n := 5)).1 ?_
  refine callsIn_of_wp_marks Tryz.func169 rfl trivial ?_ rfl
  simp only [Tryz.ntmps169, List.size_toArray, List.length_cons, List.length_nil, Nat.reduceAdd, Nat.reduceSub, Array.replicate_succ, Array.replicate_zero, List.push_toArray, List.append_toArray, List.nil_append, List.cons_append]
  gi_wp2_with fail
  obtain ⟨w2, hw2⟩ : ∃ w2, w.alloc (.cells #[.bool false] 4) = w2 := ⟨_, rfl⟩
  have B2 : Below w.heap.size w w2 := by rw [← hw2]; exact (Below.refl _ _).alloc (Nat.le_refl _) _
  have c2 : w2.cell? ⟨w.heap.size, 0, none⟩ = some (.bool false) := by rw [← hw2]; simp [go_sem]
  have f2 : w2.frozen? ⟨w.heap.size, 0, none⟩ = false := by rw [← hw2]; simp [go_sem]
  have z2 : w.heap.size < w2.heap.size := block_lt_of_cell c2
  rw [hw2]
  clear hw2
  refine ⟨trivial, (callsIn_wide.2 (sideBySide_any aa ab _ _ ca cb _)).mono ?_⟩
  rintro e w3 ⟨rfl, rfl⟩
  obtain ⟨W0, hW0⟩ : ∃ W0, (w2.alloc (.cells #[.slice aa la.length ca] 34)).alloc (.cells #[.slice ab lb.length cb] 34) = W0 := ⟨_, rfl⟩
  have cA : W0.cell? ⟨w2.heap.size, 0, none⟩ = some (.slice aa la.length ca) := by rw [← hW0]; simp [go_sem]
  have cB : W0.cell? ⟨w2.heap.size + 1, 0, none⟩ = some (.slice ab lb.length cb) := by rw [← hW0]; simp [go_sem]
  have nA3 : W0.cell? ⟨w2.heap.size, 3, none⟩ = none := by rw [← hW0]; simp [go_sem]
  have nB3 : W0.cell? ⟨w2.heap.size + 1, 3, none⟩ = none := by rw [← hW0]; simp [go_sem]
  have hsz : W0.heap.size = w2.heap.size + 2 := by rw [← hW0]; simp
  have b20 : Below w2.heap.size w2 W0 := by rw [← hW0]; exact ((Below.refl _ _).alloc (Nat.le_refl _) _).alloc (by simp) _
  have B0 : Below w.heap.size w W0 := B2.trans (b20.mono (Nat.le_of_lt z2))
  have c0 := cell_on b20 z2 c2
  have f0 : W0.frozen? ⟨w.heap.size, 0, none⟩ = false := (b20.frozen (p := ⟨w.heap.size, 0, none⟩) z2).trans f2
  rw [hW0]
  clear hW0 b20 c2 f2
  gi_wp2_with fail
  refine wpIn_rangeFunc_ownH (n := 5) rfl (by omega) (gf := 177) (lb := #[.pointer (some ⟨w2.heap.size, 0, none⟩), .pointer (some ⟨w2.heap.size + 1, 0, none⟩)]) rfl trivial (enters_of Tryz.func177 (by kernel_rfl) rfl)
    (side_stops 4 w.heap.size w2.heap.size w2.heap.size (w2.heap.size + 1) aa ab ca cb la lb hca hcb hya hyb (Nat.le_refl _) (by omega) W0 (by omega) cA cB nA3 nB3 (ha.low.below B0) (hb.low.below B0)) KS.trans (fun W l o o' _ h1 h2 _ => KS.put W l o o' h1 h2) (Below.refl _ _) (fun _ => rfl)
    (fun pre W => (W.cell? ⟨w.heap.size, 0, none⟩ = some (.bool false) ∧ W.frozen? ⟨w.heap.size, 0, none⟩ = false ∧ (∀ y ∈ pre, ¬ Alone y.p) ∧ W0.heap.size ≤ W.heap.size) ∧ Below w.heap.size w W)
    (fun c pre W => (c = .ret ∧ (∃ y ∈ pre, Alone y.p) ∧ W.cell? ⟨w.heap.size, 0, none⟩ = some (.bool false)) ∧ Below w.heap.size w W)
    (OwnFrom.and (Go.Own.from (fun s A B row hs hg hr => ⟨cell_kept hs.1 hg hr, (frozen_kept hs.1 hg hr).trans hs.2.1, hs.2.2.1, Nat.le_trans hs.2.2.2 hg.size⟩) _) (ownFrom_below (Nat.le_refl _) (by omega)))
    (fun c => OwnFrom.and (Go.Own.from (fun s A B row hs hg hr => ⟨hs.1, hs.2.1, cell_kept hs.2.2 hg hr⟩) _) (ownFrom_below (Nat.le_refl _) (by omega)))
    ⟨⟨c0, f0, by simp, Nat.le_refl _⟩, B0⟩
    (fun x a' W => ∃ bx bz, W0.heap.size ≤ bx ∧ W0.heap.size ≤ bz ∧ (W.cell? ⟨bx, 0, none⟩ = some (.string x.p.1.1) ∧ W.cell? ⟨bx, 1, none⟩ = some (.int .i64 x.p.1.2) ∧ W.cell? ⟨bz, 0, none⟩ = some (.string x.p.2.1) ∧ W.cell? ⟨bz, 1, none⟩ = some (.int .i64 x.p.2.2)) ∧ a' = { tmps := #[.slice aa la.length ca, .slice ab lb.length cb, undef, undef, .pointer (some ⟨w.heap.size, 0, none⟩), .pointer (some ⟨bx, 0, none⟩), .pointer (some ⟨bz, 0, none⟩), .slice aa la.length ca, .slice ab lb.length cb, .func (.func 177) #[] #[.pointer (some ⟨w2.heap.size, 0, none⟩), .pointer (some ⟨w2.heap.size + 1, 0, none⟩)], .agg #[.string x.p.1.1, .int .i64 x.p.1.2], .agg #[.string x.p.2.1, .int .i64 x.p.2.2], undef, undef, undef, undef, undef, undef, undef, undef], defers := [] })
    (fun x a' s A B row hs hg hr => by
      obtain ⟨bx, bz, h1, h2, h3, h4⟩ := hs
      exact ⟨bx, bz, h1, h2, ⟨cell_kept h3.1 hg (fun r e => (hr r e).2), cell_kept h3.2.1 hg (fun r e => (hr r e).2), cell_kept h3.2.2.1 hg (fun r e => (hr r e).2), cell_kept h3.2.2.2 hg (fun r e => (hr r e).2)⟩, h4⟩) ?assign ?body ?done ?stop
  case assign =>
    rintro l pre x W K ⟨⟨hc, hf, hp, hW0⟩, hB⟩ hK
    simp only [encP]
    gi_wp2
    have hb2 : Below W.heap.size W ((W.alloc (.cells #[.string x.p.1.1, .int .i64 x.p.1.2] 144)).alloc (.cells #[.string x.p.2.1, .int .i64 x.p.2.2] 144)) := ((Below.refl _ _).alloc (Nat.le_refl _) _).alloc (by simp) _
    have hWl := block_lt_of_cell hc
    exact hK _ _ (keepsFrom_below _ hb2) (KS.of_below hb2) ⟨⟨cell_on hb2 hWl hc, (hb2.frozen (p := ⟨w.heap.size, 0, none⟩) hWl).trans hf, hp, Nat.le_trans hW0 hb2.size⟩, hB.trans (hb2.mono hB.size)⟩ ⟨W.heap.size, W.heap.size + 1, hW0, Nat.le_succ_of_le hW0, ⟨by simp [go_sem], by simp [go_sem], by simp [go_sem], by simp [go_sem]⟩, rfl⟩
  case body =>
    rintro l pre x a' W hle ⟨r, hr⟩ ⟨⟨hc, hf, hp, hW0⟩, hB⟩ ⟨bx, bz, h1, h2, ⟨x0, x1, z0, z1⟩, rfl⟩ hlt
    have hWl := block_lt_of_cell hc
    have hok : ∀ W', Below W.heap.size W W' → ¬ Alone x.p → KeepsFrom W0.heap.size W W' ∧ KS w.heap.size w2.heap.size W W' ∧ (W'.cell? ⟨w.heap.size, 0, none⟩ = some (.bool false) ∧ W'.frozen? ⟨w.heap.size, 0, none⟩ = false ∧ (∀ y ∈ pre ++ [x], ¬ Alone y.p) ∧ W0.heap.size ≤ W'.heap.size) ∧ Below w.heap.size w W' :=
      fun W' h hn => ⟨keepsFrom_below _ h, KS.of_below h, ⟨cell_on h hWl hc, (h.frozen (p := ⟨w.heap.size, 0, none⟩) hWl).trans hf, fun y hy => (List.mem_append.1 hy).elim (hp y) fun e => by simp at e; subst e; exact hn, Nat.le_trans hW0 h.size⟩, hB.trans (h.mono hB.size)⟩
    have HOK : Hid _ := hok
    have hbd : ∀ W', Below W.heap.size W W' → W'.cell? ⟨w.heap.size, 0, none⟩ = some (.bool false) → Alone x.p → KeepsFrom W0.heap.size W (W'.setCell ⟨w.heap.size, 0, none⟩ (.bool false)) ∧ (((∃ y ∈ pre ++ [x], Alone y.p) ∧ (W'.setCell ⟨w.heap.size, 0, none⟩ (.bool false)).cell? ⟨w.heap.size, 0, none⟩ = some (.bool false)) ∧ Below w.heap.size w (W'.setCell ⟨w.heap.size, 0, none⟩ (.bool false))) :=
      fun W' h hc' hx => ⟨(keepsFrom_below _ h).trans ((KeepsOthers.setCell _ _ _).from _), ⟨⟨x, by simp, hx⟩, World.cell?_setCell_same' _ _ _ (by rw [hc']; rfl)⟩, (hB.trans (h.mono hB.size)).setCell (p := ⟨w.heap.size, 0, none⟩) (Nat.le_refl _) _⟩
    have HBAD : Hid _ := hbd
    clear hok hbd
    by_cases e1 : 0 < x.p.1.2
    · gi_wp2_with fail
      refine ⟨trivial, (CallsIn.inRound l (callsIn_wide.2 (had_true _ _ _ e1))).mono ?_⟩
      rintro e w3 ⟨rfl, hb3⟩
      have z0' := cell_on hb3 (block_lt_of_cell z0) z0
      have z1' := cell_on hb3 (block_lt_of_cell z1) z1
      by_cases e2 : 0 < x.p.2.2
      · gi_wp2_with fail
        refine ⟨trivial, (CallsIn.inRound l (callsIn_wide.2 (had_true _ _ _ e2))).mono ?_⟩
        rintro e w4 ⟨rfl, hb4⟩
        have hb34 := hb3.trans (hb4.mono hb3.size)
        have HAL : Hid (¬ Alone x.p) := fun h => h ⟨e1, e2⟩
        gi_wp2_with fail
        exact HOK.out w4 hb34 HAL.out
      · gi_wp2_with fail
        refine ⟨trivial, (CallsIn.inRound l (callsIn_wide.2 (had_false _ _ _ (Int.not_lt.2 e2)))).mono ?_⟩
        rintro e w4 ⟨rfl, hb4⟩
        have hb34 := hb3.trans (hb4.mono hb3.size)
        have hc4 := cell_on hb34 hWl hc
        have hf4 := (hb34.frozen (p := ⟨w.heap.size, 0, none⟩) hWl).trans hf
        have HAL : Hid (Alone x.p) := fun h => absurd h.2 (Int.not_lt.2 e2)
        clear hc hf
        gi_wp2_with fail
        have q := HBAD.out w4 hb34 hc4 HAL.out
        exact ⟨q.1, ⟨rfl, q.2.1⟩, q.2.2⟩
    · gi_wp2_with fail
      refine ⟨trivial, (CallsIn.inRound l (callsIn_wide.2 (had_false _ _ _ (Int.not_lt.2 e1)))).mono ?_⟩
      rintro e w3 ⟨rfl, hb3⟩
      have hc4 := cell_on hb3 hWl hc
      have hf4 := (hb3.frozen (p := ⟨w.heap.size, 0, none⟩) hWl).trans hf
      have HAL : Hid (Alone x.p) := fun h => absurd h.1 (Int.not_lt.2 e1)
      clear hc hf
      gi_wp2_with fail
      refine ⟨trivial, ?_⟩
      gi_wp2_with fail
      have q := HBAD.out w3 hb3 hc4 HAL.out
      exact ⟨q.1, ⟨rfl, q.2.1⟩, q.2.2⟩
  case done =>
    rintro D ys W hD hS ⟨⟨hc, hf, hne, _⟩, hB⟩ hK
    gi_wp2
    have hK' := (KeepsOthers.setCell W ⟨w.heap.size, 0, none⟩ (.bool true)).same D _ hK rfl
    refine ⟨by simp, .inl ⟨_, _, rfl, run_takeDeferred hK', ?_⟩⟩
    have hc5 := cell_kept (World.cell?_setCell_same' W ⟨w.heap.size, 0, none⟩ (.bool true) (by rw [hc]; rfl)) (grownBy_putObj' _ D (.deferred none)) (fun r e => by cases e; exact ⟨_, hK', rfl⟩)
    refine ⟨.bool true, ?_, isB_true (names_of_pairs hya hyb (pairs_spec _ la lb (stamp_sorted hya) (stamp_sorted hyb) (Nat.le_refl _)) ?_), (hB.setCell (p := ⟨w.heap.size, 0, none⟩) (Nat.le_refl _) _).trans (belowK_b (w := w) (Nat.le_refl _) _ D _ _ (by omega) hK' rfl rfl)⟩
    · simp [results, Tryz.f169, go_sem, hc5]
    · rw [← hS]
      intro p hp
      obtain ⟨y, hy, rfl⟩ := List.mem_map.1 hp
      exact hne y hy
  case stop =>
    rintro D c pre W hD hpre ⟨⟨rfl, ⟨y, hy, hbad⟩, hcr⟩, hB⟩ hK
    gi_wp2
    refine ⟨by simp, .inl ⟨_, _, rfl, run_takeDeferred hK, ?_⟩⟩
    have hc5 := cell_kept hcr (grownBy_putObj' _ D (.deferred none)) (fun r e => by cases e; exact ⟨_, hK, rfl⟩)
    refine ⟨.bool false, ?_, isB_false (not_names_of_alone hya hyb (pairs_spec _ la lb (stamp_sorted hya) (stamp_sorted hyb) (Nat.le_refl _)) (hpre.subset (List.mem_map.2 ⟨y, hy, rfl⟩)) hbad), hB.trans (belowK_b (w := w) (Nat.le_refl _) W D _ _ (by omega) hK rfl rfl)⟩
    simp [results, Tryz.f169, go_sem, hc5]

end Go.Proofs.YtpfhegengmlkmacGreatDoor
/- The walk of impl.StampOrder. -/
namespace Go.Proofs.YtpfhegengmlkmacGreatDoor
open Go.RowKit Go.Shelf Go.BigFrame
attribute [local go_sem] Oper.semAt_some

/-- Of a pair: as much on both sides; less on the left; more on the left. -/
def EqP (p : (ByteArray × Int) × (ByteArray × Int)) : Prop := p.1 = p.2
def LtP (p : (ByteArray × Int) × (ByteArray × Int)) : Prop := p.1 ≠ p.2 ∧ p.1.2 < p.2.2
def GtP (p : (ByteArray × Int) × (ByteArray × Int)) : Prop := p.1 ≠ p.2 ∧ ¬ p.1.2 < p.2.2
/-- What the order is behind some pairs. -/
def OrdS (pre : List ((ByteArray × Int) × (ByteArray × Int))) (v : Int) : Prop :=
  (v = 0 ∧ ∀ y ∈ pre, EqP y) ∨ (v = 1 ∧ (∃ y ∈ pre, LtP y) ∧ ∀ y ∈ pre, EqP y ∨ LtP y) ∨ (v = 2 ∧ (∃ y ∈ pre, GtP y) ∧ ∀ y ∈ pre, EqP y ∨ GtP y)
theorem OrdS.eq {pre : List ((ByteArray × Int) × (ByteArray × Int))} {v : Int} {x : (ByteArray × Int) × (ByteArray × Int)} (h : OrdS pre v) (hx : EqP x) : OrdS (pre ++ [x]) v := by
  rcases h with ⟨e, h⟩ | ⟨e, ⟨y, hy, hl⟩, h⟩ | ⟨e, ⟨y, hy, hl⟩, h⟩
  · exact .inl ⟨e, fun y hy => (List.mem_append.1 hy).elim (h y) (fun k => by simp at k; subst k; exact hx)⟩
  · exact .inr (.inl ⟨e, ⟨y, List.mem_append.2 (.inl hy), hl⟩, fun y hy => (List.mem_append.1 hy).elim (h y) (fun k => by simp at k; subst k; exact .inl hx)⟩)
  · exact .inr (.inr ⟨e, ⟨y, List.mem_append.2 (.inl hy), hl⟩, fun y hy => (List.mem_append.1 hy).elim (h y) (fun k => by simp at k; subst k; exact .inl hx)⟩)
theorem OrdS.lt {pre : List ((ByteArray × Int) × (ByteArray × Int))} {v : Int} {x : (ByteArray × Int) × (ByteArray × Int)} (h : OrdS pre v) (hv : v = 0 ∨ v = 1) (hx : LtP x) : OrdS (pre ++ [x]) 1 := by
  rcases h with ⟨e, h⟩ | ⟨e, _, h⟩ | ⟨e, _, _⟩
  · exact .inr (.inl ⟨rfl, ⟨x, by simp, hx⟩, fun y hy => (List.mem_append.1 hy).elim (fun k => .inl (h y k)) (fun k => by simp at k; subst k; exact .inr hx)⟩)
  · exact .inr (.inl ⟨rfl, ⟨x, by simp, hx⟩, fun y hy => (List.mem_append.1 hy).elim (h y) (fun k => by simp at k; subst k; exact .inr hx)⟩)
  · omega
theorem OrdS.gt {pre : List ((ByteArray × Int) × (ByteArray × Int))} {v : Int} {x : (ByteArray × Int) × (ByteArray × Int)} (h : OrdS pre v) (hv : v = 0 ∨ v = 2) (hx : GtP x) : OrdS (pre ++ [x]) 2 := by
  rcases h with ⟨e, h⟩ | ⟨e, _, _⟩ | ⟨e, _, h⟩
  · exact .inr (.inr ⟨rfl, ⟨x, by simp, hx⟩, fun y hy => (List.mem_append.1 hy).elim (fun k => .inl (h y k)) (fun k => by simp at k; subst k; exact .inr hx)⟩)
  · omega
  · exact .inr (.inr ⟨rfl, ⟨x, by simp, hx⟩, fun y hy => (List.mem_append.1 hy).elim (h y) (fun k => by simp at k; subst k; exact .inr hx)⟩)
theorem OrdS.val {pre : List ((ByteArray × Int) × (ByteArray × Int))} {v : Int} (h : OrdS pre v) : v = 0 ∨ v = 1 ∨ v = 2 := by
  rcases h with ⟨e, _⟩ | ⟨e, _⟩ | ⟨e, _⟩ <;> omega
/-- One pair the one way, another one the other way. -/
def Apart (pre : List ((ByteArray × Int) × (ByteArray × Int))) : Prop := (∃ y ∈ pre, LtP y) ∧ ∃ y ∈ pre, GtP y
theorem OrdS.apart1 {pre : List ((ByteArray × Int) × (ByteArray × Int))} {x : (ByteArray × Int) × (ByteArray × Int)} (h : OrdS pre 1) (hx : GtP x) : Apart (pre ++ [x]) := by
  rcases h with ⟨e, _⟩ | ⟨_, ⟨y, hy, hl⟩, _⟩ | ⟨e, _, _⟩
  · omega
  · exact ⟨⟨y, List.mem_append.2 (.inl hy), hl⟩, ⟨x, by simp, hx⟩⟩
  · omega
theorem OrdS.apart2 {pre : List ((ByteArray × Int) × (ByteArray × Int))} {x : (ByteArray × Int) × (ByteArray × Int)} (h : OrdS pre 2) (hx : LtP x) : Apart (pre ++ [x]) := by
  rcases h with ⟨e, _⟩ | ⟨e, _, _⟩ | ⟨_, ⟨y, hy, hl⟩, _⟩
  · omega
  · omega
  · exact ⟨⟨x, by simp, hx⟩, ⟨y, List.mem_append.2 (.inl hy), hl⟩⟩

theorem pair_vers {a b : List (ByteArray × Int)} {P : List ((ByteArray × Int) × (ByteArray × Int))} (hP : PSpec a b P) {p : (ByteArray × Int) × (ByteArray × Int)} (hm : p ∈ P) :
    (EqP p → getM a p.1.1 = getM b p.1.1) ∧ (LtP p → getM a p.1.1 < getM b p.1.1) ∧ (GtP p → getM b p.1.1 < getM a p.1.1) := by
  obtain ⟨e1, e2, _⟩ := hP.mem p hm
  obtain ⟨p1, p2⟩ := p
  simp only at e1 e2
  refine ⟨fun h => ?_, fun h => ?_, fun h => ?_⟩
  · have h : p1 = p2 := h
    rw [e1, e2] at h
    exact (Prod.mk.inj h).2
  · have h := h.2
    simp only at h
    rw [e1, e2] at h
    exact h
  · obtain ⟨h1, h2⟩ := h
    simp only at h1 h2
    have h3 : p1.2 ≠ p2.2 := fun e => h1 (by rw [e1, e2]; simp only [Prod.mk.injEq, true_and]; rw [e1, e2] at e; exact e)
    have h4 : p2.2 < p1.2 := by omega
    rw [e1, e2] at h4
    exact h4
theorem below_of {a b : List (ByteArray × Int)} {P : List ((ByteArray × Int) × (ByteArray × Int))} (ha : Sorted a) (hP : PSpec a b P) (h : ∀ p ∈ P, EqP p ∨ LtP p) : BelowP a b := fun i hi => by
  have e1 : getM a a[i].1 = a[i].2 := getM_mem ha (List.getElem_mem hi)
  have e2 := ha.2 _ (List.getElem_mem hi)
  obtain ⟨p, hm, hp⟩ := hP.all a[i].1 (.inl (by omega))
  obtain ⟨k1, k2, _⟩ := pair_vers hP hm
  rw [hp] at k1 k2
  rcases h p hm with h | h
  · have := k1 h; omega
  · have := k2 h; omega
theorem above_of {a b : List (ByteArray × Int)} {P : List ((ByteArray × Int) × (ByteArray × Int))} (hb : Sorted b) (hP : PSpec a b P) (h : ∀ p ∈ P, EqP p ∨ GtP p) : BelowP b a := fun i hi => by
  have e1 : getM b b[i].1 = b[i].2 := getM_mem hb (List.getElem_mem hi)
  have e2 := hb.2 _ (List.getElem_mem hi)
  obtain ⟨p, hm, hp⟩ := hP.all b[i].1 (.inr (by omega))
  obtain ⟨k1, _, k2⟩ := pair_vers hP hm
  rw [hp] at k1 k2
  rcases h p hm with h | h
  · have := k1 h; omega
  · have := k2 h; omega
theorem not_below_of {a b : List (ByteArray × Int)} {P : List ((ByteArray × Int) × (ByteArray × Int))} (hb : Sorted b) (hP : PSpec a b P) {p : (ByteArray × Int) × (ByteArray × Int)} (hm : p ∈ P) (h : GtP p) : ¬ BelowP a b := fun hab => by
  have k := (pair_vers hP hm).2.2 h
  have hn := getM_nonneg (s := p.1.1) hb
  have hmem := getM_pos (l := a) (s := p.1.1) (by omega)
  obtain ⟨i, hi, e⟩ := List.mem_iff_getElem.1 hmem
  have := hab i hi
  rw [e] at this
  simp only at this
  omega
theorem not_above_of {a b : List (ByteArray × Int)} {P : List ((ByteArray × Int) × (ByteArray × Int))} (ha : Sorted a) (hP : PSpec a b P) {p : (ByteArray × Int) × (ByteArray × Int)} (hm : p ∈ P) (h : LtP p) : ¬ BelowP b a := fun hab => by
  have k := (pair_vers hP hm).2.1 h
  have hn := getM_nonneg (s := p.1.1) ha
  have hmem := getM_pos (l := b) (s := p.1.1) (by omega)
  obtain ⟨i, hi, e⟩ := List.mem_iff_getElem.1 hmem
  have := hab i hi
  rw [e] at this
  simp only at this
  omega
theorem ord_done {a b : List (ByteArray × Int)} {P : List ((ByteArray × Int) × (ByteArray × Int))} (ha : StampP a) (hb : StampP b) (hP : PSpec a b P) {v : Int} (h : OrdS P v) : IsOrd a b v := by
  have sa := stamp_sorted ha
  have sb := stamp_sorted hb
  refine .inr ⟨ha, hb, ?_⟩
  rcases h with ⟨rfl, h⟩ | ⟨rfl, ⟨y, hy, hl⟩, h⟩ | ⟨rfl, ⟨y, hy, hl⟩, h⟩
  · exact .inl ⟨below_of sa hP fun p hp => .inl (h p hp), above_of sb hP fun p hp => .inl (h p hp), rfl⟩
  · exact .inr (.inl ⟨below_of sa hP h, not_above_of sa hP hy hl, rfl⟩)
  · exact .inr (.inr (.inl ⟨not_below_of sb hP hy hl, above_of sb hP h, rfl⟩))
theorem ord_apart {a b : List (ByteArray × Int)} {P pre : List ((ByteArray × Int) × (ByteArray × Int))} (ha : StampP a) (hb : StampP b) (hP : PSpec a b P) (hpre : pre <+: P) (h : Apart pre) : IsOrd a b 3 := by
  obtain ⟨⟨y, hy, hl⟩, z, hz, hg⟩ := h
  exact .inr ⟨ha, hb, .inr (.inr (.inr ⟨not_below_of (stamp_sorted hb) hP (hpre.subset hz) hg, not_above_of (stamp_sorted ha) hP (hpre.subset hy) hl, rfl⟩))⟩

theorem later_lt (x y : ByteArray × Int) (w : World) (h : x.2 < y.2) :
    Calls Tryz.prog 144 #[.agg #[.string x.1, .int .i64 x.2], .agg #[.string y.1, .int .i64 y.2]] w fun e w' => e = .returned (.agg #[.string y.1, .int .i64 y.2]) ∧ Below w.heap.size w w' :=
  (later_any x y w).mono fun e w' ⟨h1, h2⟩ => ⟨by rw [h1]; unfold laterM; rw [if_pos h], h2⟩
theorem later_ge (x y : ByteArray × Int) (w : World) (h : ¬ x.2 < y.2) :
    Calls Tryz.prog 144 #[.agg #[.string x.1, .int .i64 x.2], .agg #[.string y.1, .int .i64 y.2]] w fun e w' => e = .returned (.agg #[.string x.1, .int .i64 x.2]) ∧ Below w.heap.size w w' :=
  (later_any x y w).mono fun e w' ⟨h1, h2⟩ => ⟨by rw [h1]; unfold laterM; rw [if_neg h], h2⟩

set_option maxRecDepth 100000 in
set_option maxHeartbeats 4000000 in
theorem implOrder_any (aa ab : Option Addr) (ca cb : Nat) (la lb : List (ByteArray × Int)) (w : World) (hla : la.length ≤ maxLen) (hlb : lb.length ≤ maxLen) (hca : la.length ≤ ca) (hcb : lb.length ≤ cb) (ha : Row w aa la) (hb : Row w ab lb)
    (hsa : ∀ j, (h : j < la.length) → la[j].1.size ≤ maxLen) (hsb : ∀ j, (h : j < lb.length) → lb[j].1.size ≤ maxLen) :
    Calls Tryz.prog 98 #[.slice aa la.length ca, .slice ab lb.length cb] w fun e w' => (∃ v, e = .returned (.int .i64 v) ∧ IsOrd la lb v) ∧ Below w.heap.size w w' := by
  refine (callsIn_wide (n := 5)).1 ?_
  refine callsIn_of_wp_marks Tryz.func98 rfl trivial ?_ rfl
  simp only [Tryz.ntmps98, List.size_toArray, List.length_cons, List.length_nil, Nat.reduceAdd, Nat.reduceSub, Array.replicate_succ, Array.replicate_zero, List.push_toArray, List.append_toArray, List.nil_append, List.cons_append]
  gi_wp2_with fail
  have hba : Below w.heap.size w (w.alloc (.cells #[.int .i64 0] 3)) := (Below.refl _ _).alloc (Nat.le_refl _) _
  refine ⟨trivial, (callsIn_wide.2 (implStampOk_any aa ca la _ hla (ha.below hba) hsa)).mono ?_⟩
  rintro e w1 ⟨⟨r, rfl, hr1⟩, hb1⟩
  have B1 : Below w.heap.size w w1 := hba.trans (hb1.mono hba.size)
  have c1 : w1.cell? ⟨w.heap.size, 0, none⟩ = some (.int .i64 0) := cell_on hb1 (by simp) (by simp [go_sem])
  have f1 : w1.frozen? ⟨w.heap.size, 0, none⟩ = false := (hb1.frozen (p := ⟨w.heap.size, 0, none⟩) (by simp)).trans (by simp [go_sem])
  have z1 : w.heap.size < w1.heap.size := block_lt_of_cell c1
  clear hb1
  cases r
  · have hn : ¬ StampP la := fun h => by simpa using hr1.2 h
    clear hr1
    gi_wp2_with fail
    refine ⟨trivial, ?_⟩
    gi_wp2_with fail
    refine ⟨.int .i64 4, ?_, ⟨4, rfl, .inl ⟨fun h => hn h.1, rfl⟩⟩, B1.setCell (p := ⟨w.heap.size, 0, none⟩) (Nat.le_refl _) _⟩
    simp [results, Tryz.f98, go_sem, c1]
  have hya : StampP la := hr1.1 rfl
  clear hr1
  gi_wp2_with fail
  refine ⟨trivial, (callsIn_wide.2 (implStampOk_any ab cb lb _ hlb (hb.below B1) hsb)).mono ?_⟩
  rintro e w2 ⟨⟨r, rfl, hr2⟩, hb2⟩
  have B2 : Below w.heap.size w w2 := B1.trans (hb2.mono B1.size)
  have c2 := cell_on hb2 z1 c1
  have f2 : w2.frozen? ⟨w.heap.size, 0, none⟩ = false := (hb2.frozen (p := ⟨w.heap.size, 0, none⟩) z1).trans f1
  have z2 : w.heap.size < w2.heap.size := block_lt_of_cell c2
  clear hb2 c1 f1 z1 B1
  cases r
  · have hn : ¬ StampP lb := fun h => by simpa using hr2.2 h
    clear hr2
    gi_wp2_with fail
    refine ⟨.int .i64 4, ?_, ⟨4, rfl, .inl ⟨fun h => hn h.2, rfl⟩⟩, B2.setCell (p := ⟨w.heap.size, 0, none⟩) (Nat.le_refl _) _⟩
    simp [results, Tryz.f98, go_sem, c2]
  have hyb : StampP lb := hr2.1 rfl
  clear hr2
  gi_wp2_with fail
  refine ⟨trivial, (callsIn_wide.2 (sideBySide_any aa ab _ _ ca cb _)).mono ?_⟩
  rintro e w3 ⟨rfl, rfl⟩
  simp only [World.size_alloc]
  obtain ⟨W0, hW0⟩ : ∃ W0, ((w2.alloc (.cells #[.int .i64 0] 3)).alloc (.cells #[.slice aa la.length ca] 34)).alloc (.cells #[.slice ab lb.length cb] 34) = W0 := ⟨_, rfl⟩
  have cO : W0.cell? ⟨w2.heap.size, 0, none⟩ = some (.int .i64 0) := by rw [← hW0]; simp [go_sem]
  have fO : W0.frozen? ⟨w2.heap.size, 0, none⟩ = false := by rw [← hW0]; simp [go_sem]
  have cA : W0.cell? ⟨w2.heap.size + 1, 0, none⟩ = some (.slice aa la.length ca) := by rw [← hW0]; simp [go_sem]
  have cB : W0.cell? ⟨w2.heap.size + 1 + 1, 0, none⟩ = some (.slice ab lb.length cb) := by rw [← hW0]; simp [go_sem]
  have nA3 : W0.cell? ⟨w2.heap.size + 1, 3, none⟩ = none := by rw [← hW0]; simp [go_sem]
  have nB3 : W0.cell? ⟨w2.heap.size + 1 + 1, 3, none⟩ = none := by rw [← hW0]; simp [go_sem]
  have hsz : W0.heap.size = w2.heap.size + 3 := by rw [← hW0]; simp
  have b20 : Below w2.heap.size w2 W0 := by rw [← hW0]; exact (((Below.refl _ _).alloc (Nat.le_refl _) _).alloc (by simp) _).alloc (by simp; omega) _
  have B0 : Below w.heap.size w W0 := B2.trans (b20.mono (Nat.le_of_lt z2))
  have c0 := cell_on b20 z2 c2
  have f0 : W0.frozen? ⟨w.heap.size, 0, none⟩ = false := (b20.frozen (p := ⟨w.heap.size, 0, none⟩) z2).trans f2
  rw [hW0]
  clear hW0 b20 c2 f2
  gi_wp2_with fail
  refine wpIn_rangeFunc_ownH (n := 5) rfl (by omega) (gf := 177) (lb := #[.pointer (some ⟨w2.heap.size + 1, 0, none⟩), .pointer (some ⟨w2.heap.size + 1 + 1, 0, none⟩)]) rfl trivial (enters_of Tryz.func177 (by kernel_rfl) rfl)
    (side_stops 4 w.heap.size (w2.heap.size + 1) (w2.heap.size + 1) (w2.heap.size + 1 + 1) aa ab ca cb la lb hca hcb hya hyb (Nat.le_refl _) (by omega) W0 (by omega) cA cB nA3 nB3 (ha.low.below B0) (hb.low.below B0)) KS.trans (fun W l o o' _ h1 h2 _ => KS.put W l o o' h1 h2) (Below.refl _ _) (fun _ => rfl)
    (fun pre W => (W.cell? ⟨w.heap.size, 0, none⟩ = some (.int .i64 0) ∧ W.frozen? ⟨w.heap.size, 0, none⟩ = false ∧ (∃ v, OrdS (pre.map PM.p) v ∧ W.cell? ⟨w2.heap.size, 0, none⟩ = some (.int .i64 v) ∧ W.frozen? ⟨w2.heap.size, 0, none⟩ = false) ∧ W0.heap.size ≤ W.heap.size) ∧ Below w.heap.size w W)
    (fun c pre W => (c = .ret ∧ Apart (pre.map PM.p) ∧ W.cell? ⟨w.heap.size, 0, none⟩ = some (.int .i64 3)) ∧ Below w.heap.size w W)
    (OwnFrom.and (Go.Own.from (fun s A B row hs hg hr => ⟨cell_kept hs.1 hg hr, (frozen_kept hs.1 hg hr).trans hs.2.1, ⟨hs.2.2.1.choose, hs.2.2.1.choose_spec.1, cell_kept hs.2.2.1.choose_spec.2.1 hg hr, (frozen_kept hs.2.2.1.choose_spec.2.1 hg hr).trans hs.2.2.1.choose_spec.2.2⟩, Nat.le_trans hs.2.2.2 hg.size⟩) _) (ownFrom_below (Nat.le_refl _) (by omega)))
    (fun c => OwnFrom.and (Go.Own.from (fun s A B row hs hg hr => ⟨hs.1, hs.2.1, cell_kept hs.2.2 hg hr⟩) _) (ownFrom_below (Nat.le_refl _) (by omega)))
    ⟨⟨c0, f0, ⟨0, .inl ⟨rfl, by simp⟩, cO, fO⟩, Nat.le_refl _⟩, B0⟩
    (fun x a' W => ∃ bx bz, W0.heap.size ≤ bx ∧ W0.heap.size ≤ bz ∧ (W.cell? ⟨bx, 0, none⟩ = some (.string x.p.1.1) ∧ W.cell? ⟨bx, 1, none⟩ = some (.int .i64 x.p.1.2) ∧ W.cell? ⟨bz, 0, none⟩ = some (.string x.p.2.1) ∧ W.cell? ⟨bz, 1, none⟩ = some (.int .i64 x.p.2.2)) ∧ a' = { tmps := #[.slice aa la.length ca, .slice ab lb.length cb, undef, undef, .pointer (some ⟨w.heap.size, 0, none⟩), .pointer (some ⟨w2.heap.size, 0, none⟩), .pointer (some ⟨bx, 0, none⟩), .pointer (some ⟨bz, 0, none⟩), undef, .slice aa la.length ca, .bool true, .bool false, .bool false, .slice ab lb.length cb, .bool true, .bool false, .bool false, .slice aa la.length ca, .slice ab lb.length cb, .func (.func 177) #[] #[.pointer (some ⟨w2.heap.size + 1, 0, none⟩), .pointer (some ⟨w2.heap.size + 1 + 1, 0, none⟩)], .agg #[.string x.p.1.1, .int .i64 x.p.1.2], .agg #[.string x.p.2.1, .int .i64 x.p.2.2], undef, undef, undef, undef, undef, undef, undef, undef, undef, undef, undef, undef, undef, undef, undef, undef, undef], defers := [] })
    (fun x a' s A B row hs hg hr => by
      obtain ⟨bx, bz, h1, h2, h3, h4⟩ := hs
      exact ⟨bx, bz, h1, h2, ⟨cell_kept h3.1 hg (fun r e => (hr r e).2), cell_kept h3.2.1 hg (fun r e => (hr r e).2), cell_kept h3.2.2.1 hg (fun r e => (hr r e).2), cell_kept h3.2.2.2 hg (fun r e => (hr r e).2)⟩, h4⟩) ?assign ?body ?done ?stop
  case assign =>
    rintro l pre x W K ⟨⟨hc, hf, ⟨v, hv, ho, hof⟩, hW0⟩, hB⟩ hK
    simp only [encP]
    gi_wp2
    have hb2 : Below W.heap.size W ((W.alloc (.cells #[.string x.p.1.1, .int .i64 x.p.1.2] 144)).alloc (.cells #[.string x.p.2.1, .int .i64 x.p.2.2] 144)) := ((Below.refl _ _).alloc (Nat.le_refl _) _).alloc (by simp) _
    have hWl := block_lt_of_cell hc
    have hWo := block_lt_of_cell ho
    exact hK _ _ (keepsFrom_below _ hb2) (KS.of_below hb2) ⟨⟨cell_on hb2 hWl hc, (hb2.frozen (p := ⟨w.heap.size, 0, none⟩) hWl).trans hf, ⟨v, hv, cell_on hb2 hWo ho, (hb2.frozen (p := ⟨w2.heap.size, 0, none⟩) hWo).trans hof⟩, Nat.le_trans hW0 hb2.size⟩, hB.trans (hb2.mono hB.size)⟩ ⟨W.heap.size, W.heap.size + 1, hW0, Nat.le_succ_of_le hW0, ⟨by simp [go_sem], by simp [go_sem], by simp [go_sem], by simp [go_sem]⟩, rfl⟩
  case body =>
    rintro l pre x a' W hle ⟨r, hr⟩ ⟨⟨hc, hf, ⟨v, hv, ho, hof⟩, hW0⟩, hB⟩ ⟨bx, bz, h1, h2, ⟨x0, x1, z0, z1⟩, rfl⟩ hlt
    have hWl := block_lt_of_cell hc
    have hWo := block_lt_of_cell ho
    have hne : w.heap.size ≠ w2.heap.size := by omega
    have hN : ∀ n : Lat W, n.w.cell? ⟨w.heap.size, 0, none⟩ = some (.int .i64 0) ∧ n.w.frozen? ⟨w.heap.size, 0, none⟩ = false ∧ n.w.cell? ⟨w2.heap.size, 0, none⟩ = some (.int .i64 v) ∧ n.w.frozen? ⟨w2.heap.size, 0, none⟩ = false :=
      fun n => ⟨n.cell hWl hc, (n.h.frozen (p := ⟨w.heap.size, 0, none⟩) hWl).trans hf, n.cell hWo ho, (n.h.frozen (p := ⟨w2.heap.size, 0, none⟩) hWo).trans hof⟩
    have HN : Hid _ := hN
    have hset : ∀ (n : Lat W) (u : Int), OrdS ((pre ++ [x]).map PM.p) u → KeepsFrom W0.heap.size W (n.w.setCell ⟨w2.heap.size, 0, none⟩ (.int .i64 u)) ∧ KS w.heap.size (w2.heap.size + 1) W (n.w.setCell ⟨w2.heap.size, 0, none⟩ (.int .i64 u)) ∧
        ((n.w.setCell ⟨w2.heap.size, 0, none⟩ (.int .i64 u)).cell? ⟨w.heap.size, 0, none⟩ = some (.int .i64 0) ∧ (n.w.setCell ⟨w2.heap.size, 0, none⟩ (.int .i64 u)).frozen? ⟨w.heap.size, 0, none⟩ = false ∧ (∃ v, OrdS ((pre ++ [x]).map PM.p) v ∧ (n.w.setCell ⟨w2.heap.size, 0, none⟩ (.int .i64 u)).cell? ⟨w2.heap.size, 0, none⟩ = some (.int .i64 v) ∧ (n.w.setCell ⟨w2.heap.size, 0, none⟩ (.int .i64 u)).frozen? ⟨w2.heap.size, 0, none⟩ = false) ∧ W0.heap.size ≤ (n.w.setCell ⟨w2.heap.size, 0, none⟩ (.int .i64 u)).heap.size) ∧ Below w.heap.size w (n.w.setCell ⟨w2.heap.size, 0, none⟩ (.int .i64 u)) := by
      intro n u hu
      obtain ⟨n1, n2, n3, n4⟩ := hN n
      refine ⟨(keepsFrom_below _ n.h).trans ((KeepsOthers.setCell _ _ _).from _), (KS.of_below n.h).trans ⟨(KeepsOthers.setCell _ _ _).size, fun k o hk h _ => ?_⟩, ⟨(far_set _ _ hne).trans n1, ?_, ⟨u, hu, World.cell?_setCell_same' _ _ _ (by rw [n3]; rfl), ?_⟩, Nat.le_trans (Nat.le_trans hW0 n.h.size) (KeepsOthers.setCell _ _ _).size⟩, (hB.trans (n.h.mono hB.size)).setCell (p := ⟨w2.heap.size, 0, none⟩) (Nat.le_of_lt z2) _⟩
      · rw [Below.heap_setCell _ _ _ _ (by simp only; omega)]; exact h
      · simp [go_sem, n2]
      · simp [go_sem, n4]
    have HSET : Hid _ := hset
    have hret : ∀ (n : Lat W), Apart ((pre ++ [x]).map PM.p) → KeepsFrom W0.heap.size W (n.w.setCell ⟨w.heap.size, 0, none⟩ (.int .i64 3)) ∧ (Apart ((pre ++ [x]).map PM.p) ∧ (n.w.setCell ⟨w.heap.size, 0, none⟩ (.int .i64 3)).cell? ⟨w.heap.size, 0, none⟩ = some (.int .i64 3)) ∧ Below w.heap.size w (n.w.setCell ⟨w.heap.size, 0, none⟩ (.int .i64 3)) := by
      intro n hu
      obtain ⟨n1, n2, n3, n4⟩ := hN n
      exact ⟨(keepsFrom_below _ n.h).trans ((KeepsOthers.setCell _ _ _).from _), ⟨hu, World.cell?_setCell_same' _ _ _ (by rw [n1]; rfl)⟩, (hB.trans (n.h.mono hB.size)).setCell (p := ⟨w.heap.size, 0, none⟩) (Nat.le_refl _) _⟩
    have HRET : Hid _ := hret
    have hmap : (pre ++ [x]).map PM.p = pre.map PM.p ++ [x.p] := by simp
    have hsame : EqP x.p → KeepsFrom W0.heap.size W W ∧ KS w.heap.size (w2.heap.size + 1) W W ∧ (W.cell? ⟨w.heap.size, 0, none⟩ = some (.int .i64 0) ∧ W.frozen? ⟨w.heap.size, 0, none⟩ = false ∧ (∃ v, OrdS ((pre ++ [x]).map PM.p) v ∧ W.cell? ⟨w2.heap.size, 0, none⟩ = some (.int .i64 v) ∧ W.frozen? ⟨w2.heap.size, 0, none⟩ = false) ∧ W0.heap.size ≤ W.heap.size) ∧ Below w.heap.size w W :=
      fun h => ⟨KeepsFrom.refl _ _, KS.refl _ _ _, ⟨hc, hf, ⟨v, by rw [hmap]; exact hv.eq h, ho, hof⟩, hW0⟩, hB⟩
    have HSAME : Hid _ := hsame
    have HM : Hid _ := hmap
    clear hset hret hsame hmap hN
    clear hsz
    by_cases hxx : x.p.1 = x.p.2
    · obtain ⟨⟨p, q⟩, hpq⟩ := x
      obtain rfl : p = q := hxx
      gi_wp2_with fail
      exact HSAME.out rfl
    have HX : Hid (x.p.1 ≠ x.p.2) := hxx
    clear hxx
    gi_wp2_with fail
    · rename_i hs hu
      exact absurd (Prod.ext (toList_inj hs) hu) HX.out
    all_goals
      have q0 : ∀ n : Lat W, n.w.cell? ⟨bx, 0, none⟩ = some (.string x.p.1.1) := fun n => n.cell (block_lt_of_cell x0) x0
      have q1 : ∀ n : Lat W, n.w.cell? ⟨bx, 1, none⟩ = some (.int .i64 x.p.1.2) := fun n => n.cell (block_lt_of_cell x1) x1
      have q2 : ∀ n : Lat W, n.w.cell? ⟨bz, 0, none⟩ = some (.string x.p.2.1) := fun n => n.cell (block_lt_of_cell z0) z0
      have q3 : ∀ n : Lat W, n.w.cell? ⟨bz, 1, none⟩ = some (.int .i64 x.p.2.2) := fun n => n.cell (block_lt_of_cell z1) z1
      refine wpIn_region_latR (by kernel_rfl) (by kernel_rfl) (by kernel_rfl) (fun ⟨_, _, h⟩ => h) ?_
      have hne := Lat.some W
      by_cases hlt : x.p.1.2 < x.p.2.2
      · have HL : Hid (LtP x.p) := ⟨HX.out, hlt⟩
        repeat (go_big_quiet_step ((go_at_call 144; exact Calls.lat_of (later_lt _ _ _ hlt))))
        refine wpQuiet_nil ?_
        rintro _ ⟨nq, rfl⟩
        obtain ⟨n1, n2, n3, n4⟩ := HN.out nq
        have HV : Hid (OrdS (pre.map PM.p) v) := hv
        rcases hv.val with rfl | rfl | rfl
        · clear hv hc hf ho hof
          gi_wp2_with fail
          exact HSET.out nq 1 (by rw [HM.out]; exact HV.out.lt (.inl rfl) HL.out)
        · clear hv hc hf ho hof
          gi_wp2_with fail
          exact HSET.out nq 1 (by rw [HM.out]; exact HV.out.lt (.inr rfl) HL.out)
        · clear hv hc hf ho hof
          gi_wp2_with fail
          have q := HRET.out nq (by rw [HM.out]; exact HV.out.apart2 HL.out)
          exact ⟨q.1, ⟨rfl, q.2.1⟩, q.2.2⟩
      · have HL : Hid (GtP x.p) := ⟨HX.out, hlt⟩
        repeat (go_big_quiet_step ((go_at_call 144; exact Calls.lat_of (later_ge _ _ _ hlt))))
        refine wpQuiet_nil ?_
        rintro _ ⟨nq, rfl⟩
        obtain ⟨n1, n2, n3, n4⟩ := HN.out nq
        have HV : Hid (OrdS (pre.map PM.p) v) := hv
        rcases hv.val with rfl | rfl | rfl
        · clear hv hc hf ho hof
          gi_wp2_with fail
          exact HSET.out nq 2 (by rw [HM.out]; exact HV.out.gt (.inl rfl) HL.out)
        · clear hv hc hf ho hof
          gi_wp2_with fail
          have q := HRET.out nq (by rw [HM.out]; exact HV.out.apart1 HL.out)
          exact ⟨q.1, ⟨rfl, q.2.1⟩, q.2.2⟩
        · clear hv hc hf ho hof
          gi_wp2_with fail
          exact HSET.out nq 2 (by rw [HM.out]; exact HV.out.gt (.inr rfl) HL.out)
  case done =>
    rintro D ys W hD hS ⟨⟨hc, hf, ⟨v, hv, ho, hof⟩, _⟩, hB⟩ hK
    gi_wp2
    have hK' := (KeepsOthers.setCell W ⟨w.heap.size, 0, none⟩ (.int .i64 v)).same D _ hK rfl
    refine ⟨by simp, .inl ⟨_, _, rfl, run_takeDeferred hK', ?_⟩⟩
    have hc5 := cell_kept (World.cell?_setCell_same' W ⟨w.heap.size, 0, none⟩ (.int .i64 v) (by rw [hc]; rfl)) (grownBy_putObj' _ D (.deferred none)) (fun r e => by cases e; exact ⟨_, hK', rfl⟩)
    refine ⟨.int .i64 v, ?_, ⟨v, rfl, ord_done hya hyb (pairs_spec _ la lb (stamp_sorted hya) (stamp_sorted hyb) (Nat.le_refl _)) (by rw [← hS]; exact hv)⟩, (hB.setCell (p := ⟨w.heap.size, 0, none⟩) (Nat.le_refl _) _).trans (belowK_b (w := w) (Nat.le_refl _) _ D _ _ (by omega) hK' rfl rfl)⟩
    simp [results, Tryz.f98, go_sem, hc5]
  case stop =>
    rintro D c pre W hD hpre ⟨⟨rfl, hap, hcr⟩, hB⟩ hK
    gi_wp2
    refine ⟨by simp, .inl ⟨_, _, rfl, run_takeDeferred hK, ?_⟩⟩
    have hc5 := cell_kept hcr (grownBy_putObj' _ D (.deferred none)) (fun r e => by cases e; exact ⟨_, hK, rfl⟩)
    refine ⟨.int .i64 3, ?_, ⟨3, rfl, ord_apart hya hyb (pairs_spec _ la lb (stamp_sorted hya) (stamp_sorted hyb) (Nat.le_refl _)) hpre hap⟩, hB.trans (belowK_b (w := w) (Nat.le_refl _) W D _ _ (by omega) hK rfl rfl)⟩
    simp [results, Tryz.f98, go_sem, hc5]

end Go.Proofs.YtpfhegengmlkmacGreatDoor
/- Walks: takes, readWindow. -/
namespace Go.Proofs.YtpfhegengmlkmacGreatDoor
open Go.RowKit Go.BigFrame
set_option maxRecDepth 100000

theorem stamp_fit {l : List (ByteArray × Int)} (h : StampP l) : FitM l := ⟨by have := h.1; unfold maxLen; omega, fun j hj => by have := (h.2.1 j hj).1.2.1; unfold maxLen; omega⟩

theorem field_stamp (y : Int) (a : Option Addr) (n c : Nat) (u : World) : (Instr.field 44 (.agg #[.int .i64 y, .slice a n c]) 1).run Tryz.prog u = .ok (.slice a n c) u := by kernel_rfl

set_option maxHeartbeats 800000 in
theorem takes_any (W0 w : World) (b s : Nat) (l : List ItemL) (x : Int) (v : Value) (m : List (ByteArray × Int)) (h : WinB W0 w b s l) (hW : Below W0.heap.size W0 w) (hl : ∀ k, (h : k < l.length) → StampP l[k].2) (hv : IsSl W0 v m) (hm : StampP m) :
    Calls Tryz.prog 129 #[.pointer (some ⟨b, 0, none⟩), .agg #[.int .i64 x, v]] w fun e w' => IsB (∀ h : 0 < l.length, AboveP (l[l.length - 1]'(by omega)).2 m) e ∧ Below w.heap.size w w' := by
  have h4 := h.2.2.1
  have hz := hW.size
  obtain ⟨sa, sc, rfl, hcap, hrow⟩ := hv
  go_enter Tryz.func129, Tryz.ntmps129
  go_wp2_with fail
  have hb0 : Below w.heap.size w (w.alloc (.cells #[.int .i64 x, .slice sa m.length sc] 44)) := (Below.refl _ _).alloc (Nat.le_refl _) _
  have d0 := box0 w (.int .i64 x) (.slice sa m.length sc) 44
  have d1 := box1 w (.int .i64 x) (.slice sa m.length sc) 44
  have hlt := box_lt w (.cells #[.int .i64 x, .slice sa m.length sc] 44)
  have hW1 := h.below hb0
  generalize w.alloc (.cells #[.int .i64 x, .slice sa m.length sc] 44) = W1 at *
  refine (size_any W0 W1 b s l hW1).mono ?_
  rintro e w1 ⟨rfl, rfl⟩
  by_cases h0 : 0 < l.length
  · have h0' : ((l.length : Int) == 0) = false := by rw [beq_eq_false_iff_ne]; omega
    go_wp2_with fail
    refine (last_any W0 _ b s l hW1 h0).mono ?_
    rintro e w2 ⟨⟨v2, rfl, sb, sd, rfl, hcap2, hrow2⟩, b2⟩
    have B2 : Below w.heap.size w w2 := hb0.trans (b2.mono hb0.size)
    have BW : Below W0.heap.size W0 w2 := hW.trans (B2.mono hz)
    replace d0 := cell_on b2 hlt d0
    replace d1 := cell_on b2 hlt d1
    have hs1 := hl (l.length - 1) (by omega)
    have hlt2 : w.heap.size < w2.heap.size := Nat.lt_of_lt_of_le hlt b2.size
    generalize hq : l[l.length - 1] = q at *
    obtain ⟨q1, q2⟩ := q
    simp only at hs1 hcap2 hrow2
    have HG : Hid (∀ P : List (ByteArray × Int) → Prop, P q2 → P (l[l.length - 1]'(by omega)).2) := fun P hP => by rw [hq]; exact hP
    have hfd := field_stamp q1 sb q2.length sd
    clear b2 hW1 hq
    go_wp2_with fail
    refine (same_any sb sa sd sc q2 m _ hcap2 hcap (hrow2.below BW) (hrow.below BW) hs1 hm).mono ?_
    rintro e w3 ⟨⟨r, rfl, hr⟩, b3⟩
    have B3 : Below w.heap.size w w3 := B2.trans (b3.mono B2.size)
    have BW3 : Below W0.heap.size W0 w3 := hW.trans (B3.mono hz)
    replace d0 := cell_on b3 hlt2 d0
    replace d1 := cell_on b3 hlt2 d1
    have HR : Hid (r = true ↔ namesM q2 = namesM m) := hr
    clear hr b3
    cases r
    · have HN : Hid (¬ ∀ h : 0 < l.length, AboveP (l[l.length - 1]'(by omega)).2 m) := fun h => by
        have h1 := HG.out (fun z => ¬ AboveP z m) (fun z => by simpa using HR.out.2 z.1)
        exact h1 (h h0)
      clear HR HG
      go_wp2_with fail
      go_ret
      exact ⟨isB_false HN.out, B3⟩
    · go_wp2_with fail
      refine (implOrder_any sb sa sd sc q2 m _ (stamp_fit hs1).1 (stamp_fit hm).1 hcap2 hcap (hrow2.below BW3) (hrow.below BW3) (stamp_fit hs1).2 (stamp_fit hm).2).mono ?_
      rintro e w4 ⟨⟨v, rfl, hv⟩, b4⟩
      have B4 : Below w.heap.size w w4 := B3.trans (b4.mono B3.size)
      have HV : Hid (v = 1 ↔ (StampP q2 ∧ StampP m ∧ BelowP q2 m ∧ ¬ BelowP m q2)) := ord_less hv
      clear hv
      go_wp2_with fail
      go_ret
      refine ⟨⟨v == 1, rfl, ?_⟩, B4⟩
      rw [beq_iff_eq, HV.out]
      constructor
      · intro h _
        exact HG.out (fun z => AboveP z m) ⟨HR.out.1 (by trivial), h⟩
      · intro h
        have h1 := HG.out (fun z => AboveP z m → (StampP q2 ∧ StampP m ∧ BelowP q2 m ∧ ¬ BelowP m q2)) (fun z => z.2)
        exact h1 (h h0)
  · have h0' : ((l.length : Int) == 0) = true := by rw [beq_iff_eq]; omega
    go_wp2_with fail
    go_ret
    exact ⟨isB_true (fun q => absurd q h0), hb0⟩

/-- The value of a window that is handed on: its items' marks lie in W0. -/
def WinV (W0 : World) (v : Value) (l : List ItemL) : Prop := ∃ (x0 x1 x2 x3 : Int) (a0 a1 a2 a3 : Option Addr) (n0 n1 n2 n3 c0 c1 c2 c3 : Nat),
  v = .agg #[.int .i64 x0, .slice a0 n0 c0, .int .i64 x1, .slice a1 n1 c1, .int .i64 x2, .slice a2 n2 c2, .int .i64 x3, .slice a3 n3 c3, .int .i64 0, .int .i64 l.length] ∧ l.length ≤ 4 ∧
    ∀ k, (h : k < l.length) → [x0, x1, x2, x3][k]? = some l[k].1 ∧ ∃ a n c, [(a0, n0, c0), (a1, n1, c1), (a2, n2, c2), (a3, n3, c3)][k]? = some (a, n, c) ∧ IsSl W0 (.slice a n c) l[k].2

theorem winV_of {W0 : World} {f : Nat → Value} {l : List ItemL} (h4 : l.length ≤ 4) {x0 x1 x2 x3 : Int} {a0 a1 a2 a3 : Option Addr} {n0 n1 n2 n3 c0 c1 c2 c3 : Nat}
    (p0 : f (0 * 2) = .int .i64 x0) (p1 : f (0 * 2 + 1) = .slice a0 n0 c0) (p2 : f (1 * 2) = .int .i64 x1) (p3 : f (1 * 2 + 1) = .slice a1 n1 c1) (p4 : f (2 * 2) = .int .i64 x2) (p5 : f (2 * 2 + 1) = .slice a2 n2 c2) (p6 : f (3 * 2) = .int .i64 x3) (p7 : f (3 * 2 + 1) = .slice a3 n3 c3)
    (hf : ∀ k, (h : k < l.length) → f ((0 + k) % 4 * 2) = .int .i64 l[k].1 ∧ ∃ v, f ((0 + k) % 4 * 2 + 1) = v ∧ IsSl W0 v l[k].2) :
    WinV W0 (.agg #[.int .i64 x0, .slice a0 n0 c0, .int .i64 x1, .slice a1 n1 c1, .int .i64 x2, .slice a2 n2 c2, .int .i64 x3, .slice a3 n3 c3, .int .i64 0, .int .i64 l.length]) l := by
  refine ⟨x0, x1, x2, x3, a0, a1, a2, a3, n0, n1, n2, n3, c0, c1, c2, c3, rfl, h4, fun k hk => ?_⟩
  rcases (by omega : k = 0 ∨ k = 1 ∨ k = 2 ∨ k = 3) with rfl | rfl | rfl | rfl
  · obtain ⟨q1, v, q2, q3⟩ := hf 0 hk
    have e1 : x0 = l[0].1 := by have h := p0.symm.trans q1; simpa using h
    have e2 : v = .slice a0 n0 c0 := q2.symm.trans p1
    exact ⟨by rw [← e1]; rfl, a0, n0, c0, rfl, by rw [← e2]; exact q3⟩
  · obtain ⟨q1, v, q2, q3⟩ := hf 1 hk
    have e1 : x1 = l[1].1 := by have h := p2.symm.trans q1; simpa using h
    have e2 : v = .slice a1 n1 c1 := q2.symm.trans p3
    exact ⟨by rw [← e1]; rfl, a1, n1, c1, rfl, by rw [← e2]; exact q3⟩
  · obtain ⟨q1, v, q2, q3⟩ := hf 2 hk
    have e1 : x2 = l[2].1 := by have h := p4.symm.trans q1; simpa using h
    have e2 : v = .slice a2 n2 c2 := q2.symm.trans p5
    exact ⟨by rw [← e1]; rfl, a2, n2, c2, rfl, by rw [← e2]; exact q3⟩
  · obtain ⟨q1, v, q2, q3⟩ := hf 3 hk
    have e1 : x3 = l[3].1 := by have h := p6.symm.trans q1; simpa using h
    have e2 : v = .slice a3 n3 c3 := q2.symm.trans p7
    exact ⟨by rw [← e1]; rfl, a3, n3, c3, rfl, by rw [← e2]; exact q3⟩
/-- A window's value that lies in a block of its own is a ring that begins at its first slot. -/
theorem WinV.ring {W0 : World} {v : Value} {l : List ItemL} (h : WinV W0 v l) : ∃ cs : Array Value, v = .agg cs ∧ cs.size = 10 ∧ ∀ (w : World) (b : Nat), W0.heap.size ≤ b → w.rowIs b 190 10 (fun i => (cs[i]?).getD undef) → WinB W0 w b 0 l := by
  obtain ⟨x0, x1, x2, x3, a0, a1, a2, a3, n0, n1, n2, n3, c0, c1, c2, c3, rfl, h4, hk⟩ := h
  refine ⟨_, rfl, rfl, fun w b hb hr => ⟨hb, by omega, h4, _, ⟨hr, fun i hi => ?_⟩, rfl, rfl, fun k h => ?_⟩⟩
  · rcases (by omega : i = 0 ∨ i = 1 ∨ i = 2 ∨ i = 3) with rfl | rfl | rfl | rfl
    · exact ⟨_, _, _, _, rfl, rfl⟩
    · exact ⟨_, _, _, _, rfl, rfl⟩
    · exact ⟨_, _, _, _, rfl, rfl⟩
    · exact ⟨_, _, _, _, rfl, rfl⟩
  · rcases (by omega : k = 0 ∨ k = 1 ∨ k = 2 ∨ k = 3) with rfl | rfl | rfl | rfl
    · obtain ⟨q1, a, n, c, q2, q3⟩ := hk 0 h
      obtain ⟨rfl, rfl, rfl⟩ : a0 = a ∧ n0 = n ∧ c0 = c := by simpa using q2
      have e1 : x0 = l[0].1 := by simpa using q1
      exact ⟨by rw [← e1]; rfl, _, rfl, q3⟩
    · obtain ⟨q1, a, n, c, q2, q3⟩ := hk 1 h
      obtain ⟨rfl, rfl, rfl⟩ : a1 = a ∧ n1 = n ∧ c1 = c := by simpa using q2
      have e1 : x1 = l[1].1 := by simpa using q1
      exact ⟨by rw [← e1]; rfl, _, rfl, q3⟩
    · obtain ⟨q1, a, n, c, q2, q3⟩ := hk 2 h
      obtain ⟨rfl, rfl, rfl⟩ : a2 = a ∧ n2 = n ∧ c2 = c := by simpa using q2
      have e1 : x2 = l[2].1 := by simpa using q1
      exact ⟨by rw [← e1]; rfl, _, rfl, q3⟩
    · obtain ⟨q1, a, n, c, q2, q3⟩ := hk 3 h
      obtain ⟨rfl, rfl, rfl⟩ : a3 = a ∧ n3 = n ∧ c3 = c := by simpa using q2
      have e1 : x3 = l[3].1 := by simpa using q1
      exact ⟨by rw [← e1]; rfl, _, rfl, q3⟩

/-- The same, in a block that is just laid. -/
theorem WinV.laid {W0 : World} {v : Value} {l : List ItemL} (h : WinV W0 v l) : ∃ (x0 x1 x2 x3 : Int) (a0 a1 a2 a3 : Option Addr) (n0 n1 n2 n3 c0 c1 c2 c3 : Nat), v = .agg #[.int .i64 x0, .slice a0 n0 c0, .int .i64 x1, .slice a1 n1 c1, .int .i64 x2, .slice a2 n2 c2, .int .i64 x3, .slice a3 n3 c3, .int .i64 0, .int .i64 l.length] ∧
    ∀ w : World, W0.heap.size ≤ w.heap.size → WinB W0 (w.alloc (.cells #[.int .i64 x0, .slice a0 n0 c0, .int .i64 x1, .slice a1 n1 c1, .int .i64 x2, .slice a2 n2 c2, .int .i64 x3, .slice a3 n3 c3, .int .i64 0, .int .i64 l.length] 190)) w.heap.size 0 l := by
  obtain ⟨cs, hv, hs, hw⟩ := h.ring
  obtain ⟨x0, x1, x2, x3, a0, a1, a2, a3, n0, n1, n2, n3, c0, c1, c2, c3, rfl, h4, hk⟩ := h
  obtain rfl : #[.int .i64 x0, .slice a0 n0 c0, .int .i64 x1, .slice a1 n1 c1, .int .i64 x2, .slice a2 n2 c2, .int .i64 x3, .slice a3 n3 c3, .int .i64 0, .int .i64 l.length] = cs := by simpa using hv
  exact ⟨x0, x1, x2, x3, a0, a1, a2, a3, n0, n1, n2, n3, c0, c1, c2, c3, rfl, fun w hW => hw _ _ hW (World.rowIs_alloc w _ 190 _ (fun i hi => by simp only [Array.getElem?_eq_getElem hi, Option.getD_some]))⟩

/-- What a call of readWindow ends with. -/
def ReadE (W0 : World) (l : List ItemL) (e : Ending) : Prop := (∃ v, e = .returned (.tuple #[v, .bool true]) ∧ WinP l ∧ WinV W0 v l) ∨ (∃ v, e = .returned (.tuple #[v, .bool false]) ∧ ¬ WinP l ∧ WinV W0 v [])

abbrev zero10 : Array Value := #[.int .i64 0, .slice none 0 0, .int .i64 0, .slice none 0 0, .int .i64 0, .slice none 0 0, .int .i64 0, .slice none 0 0, .int .i64 0, .int .i64 0]
theorem winV_zero (W0 : World) : WinV W0 (.agg zero10) [] := ⟨0, 0, 0, 0, none, none, none, none, 0, 0, 0, 0, 0, 0, 0, 0, rfl, Nat.zero_le _, fun k h => absurd h (Nat.not_lt_zero k)⟩

theorem winB_new (W0 w : World) (h : W0.heap.size ≤ w.heap.size) : WinB W0 (w.alloc (.cells zero10 190)) w.heap.size 0 [] := by
  refine ⟨h, by omega, Nat.zero_le _, fun i => (zero10[i]?).getD undef, ⟨?_, ?_⟩, rfl, rfl, fun k h => absurd h (Nat.not_lt_zero k)⟩
  · exact World.rowIs_alloc w zero10 190 _ (fun i hi => by simp [Array.getElem?_eq_getElem hi])
  · intro i hi
    match i, hi with
    | 0, _ => exact ⟨0, none, 0, 0, rfl, rfl⟩
    | 1, _ => exact ⟨0, none, 0, 0, rfl, rfl⟩
    | 2, _ => exact ⟨0, none, 0, 0, rfl, rfl⟩
    | 3, _ => exact ⟨0, none, 0, 0, rfl, rfl⟩

/-- Block 'H' is a window of noughts. -/
def ZeroB (w : World) (H : Nat) : Prop := w.rowIs H 190 10 (fun i => (zero10[i]?).getD undef)
theorem zeroB_new (w : World) : ZeroB (w.alloc (.cells zero10 190)) w.heap.size := World.rowIs_alloc w zero10 190 _ (fun i hi => by simp [Array.getElem?_eq_getElem hi])
theorem ZeroB.cells {w : World} {H : Nat} (h : ZeroB w H) : w.cell? ⟨H, 0, none⟩ = some (.int .i64 0) ∧ w.cell? ⟨H, 1, none⟩ = some (.slice none 0 0) ∧ w.cell? ⟨H, 2, none⟩ = some (.int .i64 0) ∧ w.cell? ⟨H, 3, none⟩ = some (.slice none 0 0) ∧ w.cell? ⟨H, 4, none⟩ = some (.int .i64 0) ∧ w.cell? ⟨H, 5, none⟩ = some (.slice none 0 0) ∧ w.cell? ⟨H, 6, none⟩ = some (.int .i64 0) ∧ w.cell? ⟨H, 7, none⟩ = some (.slice none 0 0) ∧ w.cell? ⟨H, 8, none⟩ = some (.int .i64 0) ∧ w.cell? ⟨H, 9, none⟩ = some (.int .i64 0) :=
  ⟨h.cell (by decide), h.cell (by decide), h.cell (by decide), h.cell (by decide), h.cell (by decide), h.cell (by decide), h.cell (by decide), h.cell (by decide), h.cell (by decide), h.cell (by decide)⟩
theorem ZeroB.free {w : World} {H : Nat} (h : ZeroB w H) : w.frozen? ⟨H, 0, none⟩ = false ∧ w.frozen? ⟨H, 1, none⟩ = false ∧ w.frozen? ⟨H, 2, none⟩ = false ∧ w.frozen? ⟨H, 3, none⟩ = false ∧ w.frozen? ⟨H, 4, none⟩ = false ∧ w.frozen? ⟨H, 5, none⟩ = false ∧ w.frozen? ⟨H, 6, none⟩ = false ∧ w.frozen? ⟨H, 7, none⟩ = false ∧ w.frozen? ⟨H, 8, none⟩ = false ∧ w.frozen? ⟨H, 9, none⟩ = false :=
  ⟨h.frozen _, h.frozen _, h.frozen _, h.frozen _, h.frozen _, h.frozen _, h.frozen _, h.frozen _, h.frozen _, h.frozen _⟩
theorem ZeroB.below {w w' : World} {H : Nat} (h : ZeroB w H) (hb : Below w.heap.size w w') : ZeroB w' H := World.rowIs.of_block h (hb.block H (World.rowIs.lt h))
theorem ZeroB.but {w w' : World} {H b : Nat} (h : ZeroB w H) (hb : But b w w') (hne : H ≠ b) : ZeroB w' H := World.rowIs.of_block h (hb.block H (World.rowIs.lt h) hne)
theorem stamps_take {l : List ItemL} {k : Nat} (h : WinTo l k) : ∀ j, (hj : j < (l.take k).length) → StampP (l.take k)[j].2 := fun j hj => by
  rw [List.length_take] at hj
  rw [List.getElem_take]
  exact (h.1 j (by omega) (by omega)).1

theorem take_above {l : List ItemL} {k : Nat} (h : WinP l) (hk : k < l.length) : ∀ h0 : 0 < (l.take k).length, AboveP ((l.take k)[(l.take k).length - 1]'(by omega)).2 l[k].2 := fun h0 => by
  have e : (l.take k).length = k := by rw [List.length_take]; omega
  have e2 : (l.take k)[(l.take k).length - 1]'(by omega) = l[k - 1]'(by omega) := by rw [List.getElem_take]; congr 1; omega
  rw [e2]
  exact winP_above h (by omega) hk
theorem above_take {l : List ItemL} {k : Nat} (hk : k < l.length) (h0 : 0 < k) (h : ∀ h0 : 0 < (l.take k).length, AboveP ((l.take k)[(l.take k).length - 1]'(by omega)).2 l[k].2) : AboveP (l[k - 1]'(by omega)).2 l[k].2 := by
  have e : (l.take k).length = k := by rw [List.length_take]; omega
  have e2 : (l.take k)[(l.take k).length - 1]'(by omega) = l[k - 1]'(by omega) := by rw [List.getElem_take]; congr 1; omega
  rw [← e2]
  exact h (by omega)
/-- Ten cells of one block are written. -/
def put10 (w : World) (H : Nat) (v0 v1 v2 v3 v4 v5 v6 v7 v8 v9 : Value) : World := (((((((((w.setCell ⟨H, 0, none⟩ v0).setCell ⟨H, 1, none⟩ v1).setCell ⟨H, 2, none⟩ v2).setCell ⟨H, 3, none⟩ v3).setCell ⟨H, 4, none⟩ v4).setCell ⟨H, 5, none⟩ v5).setCell ⟨H, 6, none⟩ v6).setCell ⟨H, 7, none⟩ v7).setCell ⟨H, 8, none⟩ v8).setCell ⟨H, 9, none⟩ v9
theorem put10_cells {w : World} {H : Nat} {f : Nat → Value} (h : w.rowIs H 190 10 f) (v0 v1 v2 v3 v4 v5 v6 v7 v8 v9 : Value) : (put10 w H v0 v1 v2 v3 v4 v5 v6 v7 v8 v9).cell? ⟨H, 0, none⟩ = some v0 ∧ (put10 w H v0 v1 v2 v3 v4 v5 v6 v7 v8 v9).cell? ⟨H, 1, none⟩ = some v1 ∧ (put10 w H v0 v1 v2 v3 v4 v5 v6 v7 v8 v9).cell? ⟨H, 2, none⟩ = some v2 ∧ (put10 w H v0 v1 v2 v3 v4 v5 v6 v7 v8 v9).cell? ⟨H, 3, none⟩ = some v3 ∧ (put10 w H v0 v1 v2 v3 v4 v5 v6 v7 v8 v9).cell? ⟨H, 4, none⟩ = some v4 ∧ (put10 w H v0 v1 v2 v3 v4 v5 v6 v7 v8 v9).cell? ⟨H, 5, none⟩ = some v5 ∧ (put10 w H v0 v1 v2 v3 v4 v5 v6 v7 v8 v9).cell? ⟨H, 6, none⟩ = some v6 ∧ (put10 w H v0 v1 v2 v3 v4 v5 v6 v7 v8 v9).cell? ⟨H, 7, none⟩ = some v7 ∧ (put10 w H v0 v1 v2 v3 v4 v5 v6 v7 v8 v9).cell? ⟨H, 8, none⟩ = some v8 ∧ (put10 w H v0 v1 v2 v3 v4 v5 v6 v7 v8 v9).cell? ⟨H, 9, none⟩ = some v9 := by
  have R := ((((((((((h.set 0 v0).set 1 v1).set 2 v2).set 3 v3).set 4 v4).set 5 v5).set 6 v6).set 7 v7).set 8 v8).set 9 v9)
  exact ⟨R.cell (by decide), R.cell (by decide), R.cell (by decide), R.cell (by decide), R.cell (by decide), R.cell (by decide), R.cell (by decide), R.cell (by decide), R.cell (by decide), R.cell (by decide)⟩
theorem put10_below {B H : Nat} {x w : World} (hb : Below B x w) (hB : B ≤ H) (v0 v1 v2 v3 v4 v5 v6 v7 v8 v9 : Value) : Below B x (put10 w H v0 v1 v2 v3 v4 v5 v6 v7 v8 v9) := ((((((((((hb.setCell (p := ⟨H, 0, none⟩) hB v0).setCell (p := ⟨H, 1, none⟩) hB v1).setCell (p := ⟨H, 2, none⟩) hB v2).setCell (p := ⟨H, 3, none⟩) hB v3).setCell (p := ⟨H, 4, none⟩) hB v4).setCell (p := ⟨H, 5, none⟩) hB v5).setCell (p := ⟨H, 6, none⟩) hB v6).setCell (p := ⟨H, 7, none⟩) hB v7).setCell (p := ⟨H, 8, none⟩) hB v8).setCell (p := ⟨H, 9, none⟩) hB v9)

set_option maxHeartbeats 3200000 in
theorem readWindow_any (a : Option Addr) (cap : Nat) (l : List ItemL) (w : World) (hf : FitI l) (hr : RowI w a l) :
    Calls Tryz.prog 127 #[.slice a l.length cap] w fun e w' => ReadE w l e ∧ Below w.heap.size w w' := by
  have hl := hf.1
  unfold maxLen at hl
  by_cases h4 : 4 < l.length
  · have HN : Hid (¬ WinP l) := fun h => by have := h.1; omega
    go_enter Tryz.func127, Tryz.ntmps127
    go_wp2_with fail
    exact bodyPost_ret (v := .tuple #[.agg zero10, .bool false]) (by simp [results, Tryz.results127, go_sem]) rfl ⟨.inr ⟨_, rfl, HN.out, winV_zero _⟩, ((Below.refl _ _).alloc (Nat.le_refl _) _).alloc (by simp) _⟩
  go_enter Tryz.func127, Tryz.ntmps127
  go_wp2_with fail
  have hA1 : Below w.heap.size w (w.alloc (.cells zero10 190)) := (Below.refl _ _).alloc (Nat.le_refl _) _
  have hA2 : Below w.heap.size w ((w.alloc (.cells zero10 190)).alloc (.cells zero10 190)) := hA1.alloc hA1.size _
  have hZ : ZeroB ((w.alloc (.cells zero10 190)).alloc (.cells zero10 190)) w.heap.size := (zeroB_new w).below ((Below.refl _ _).alloc (Nat.le_refl _) _)
  have hWn : WinB w ((w.alloc (.cells zero10 190)).alloc (.cells zero10 190)) (w.heap.size + 1) 0 [] := by
    have h := winB_new w (w.alloc (.cells zero10 190)) hA1.size
    rw [World.size_alloc] at h
    exact h
  go_loopw [13] (fun i wr => ∃ k : Nat, k ≤ l.length ∧ i = .int .i64 k ∧ WinB w wr (w.heap.size + 1) 0 (l.take k) ∧ Hid (WinTo l k) ∧ ZeroB wr w.heap.size ∧ Below w.heap.size w wr) (fun i _ => l.length - (intOf i).toNat)
  case atStart => exact ⟨0, Nat.zero_le _, rfl, hWn, winTo_zero l, hZ, hA2⟩
  case round =>
    obtain ⟨k, hk, rfl, hW, HTO, hz, hb⟩ := hrel
    clear hA1 hA2 hZ hWn
    by_cases hlt : k < l.length
    · obtain ⟨b1, o1, rfl, g1, e0, v1, e1, ⟨s1, t1, rfl, hc1, r1⟩⟩ := hr k hlt
      have k0 : (0 : Int) ≤ (k : Int) := by omega
      have k1 : (k : Int) < (l.length : Int) := by omega
      have x0 := cell_on hb g1 e0
      have x1 := cell_on hb g1 e1
      have fk := hf.2 k hlt
      clear e0 e1
      go_wp2_with fail
      have hb0 : Below wr.heap.size wr (wr.alloc (.cells #[.int .i64 l[k].1, .slice s1 l[k].2.length t1] 44)) := (Below.refl _ _).alloc (Nat.le_refl _) _
      have d0 := box0 wr (.int .i64 l[k].1) (.slice s1 l[k].2.length t1) 44
      have d1 := box1 wr (.int .i64 l[k].1) (.slice s1 l[k].2.length t1) 44
      have hlt0 := box_lt wr (.cells #[.int .i64 l[k].1, .slice s1 l[k].2.length t1] 44)
      replace hW := hW.below hb0
      replace hz := hz.below hb0
      have B1 : Below w.heap.size w (wr.alloc (.cells #[.int .i64 l[k].1, .slice s1 l[k].2.length t1] 44)) := hb.trans (hb0.mono hb.size)
      generalize hq : wr.heap.size = q at *
      generalize wr.alloc (.cells #[.int .i64 l[k].1, .slice s1 l[k].2.length t1] 44) = W1 at *
      clear hb0 x0 x1 hq hb
      refine (itemOk_any l[k].1 s1 t1 l[k].2 W1 (r1.below B1) fk).mono ?_
      rintro e w2 ⟨⟨r, rfl, hr2⟩, b2⟩
      replace hW := hW.below b2
      replace hz := hz.below b2
      replace d0 := cell_on b2 hlt0 d0
      replace d1 := cell_on b2 hlt0 d1
      have B2 : Below w.heap.size w w2 := B1.trans (b2.mono B1.size)
      have hlt2 : q < w2.heap.size := Nat.lt_of_lt_of_le hlt0 b2.size
      have HR2 : Hid (r = true ↔ StampP l[k].2 ∧ l[k].2 ≠ []) := hr2
      clear hr2 b2 B1 hlt0
      cases r
      · have HN : Hid (¬ WinP l) := fun h => by simpa using HR2.out.2 (h.2.1 k hlt)
        obtain ⟨z0, z1, z2, z3, z4, z5, z6, z7, z8, z9⟩ := hz.cells
        obtain ⟨y0, y1, y2, y3, y4, y5, y6, y7, y8, y9⟩ := hz.free
        have HY : Hid _ := put10_cells hz (.int .i64 0) (.slice none 0 0) (.int .i64 0) (.slice none 0 0) (.int .i64 0) (.slice none 0 0) (.int .i64 0) (.slice none 0 0) (.int .i64 0) (.int .i64 0)
        clear HR2 hz hW
        go_wp2_with fail
        obtain ⟨Y0, Y1, Y2, Y3, Y4, Y5, Y6, Y7, Y8, Y9⟩ := HY.out
        unfold put10 at Y0 Y1 Y2 Y3 Y4 Y5 Y6 Y7 Y8 Y9
        exact bodyPost_ret (v := .tuple #[.agg zero10, .bool false]) (by simp [results, Tryz.results127, go_sem, Y0, Y1, Y2, Y3, Y4, Y5, Y6, Y7, Y8, Y9]) rfl ⟨.inr ⟨_, rfl, HN.out, winV_zero _⟩, put10_below B2 (Nat.le_refl _) _ _ _ _ _ _ _ _ _ _⟩
      · go_wp2_with fail
        refine (takes_any w w2 _ 0 (l.take k) l[k].1 _ l[k].2 hW B2 (stamps_take HTO.out) ⟨s1, t1, rfl, hc1, r1⟩ (HR2.out.1 (by trivial)).1).mono ?_
        rintro e w3 ⟨⟨r, rfl, hr3⟩, b3⟩
        replace hW := hW.below b3
        replace hz := hz.below b3
        replace d0 := cell_on b3 hlt2 d0
        replace d1 := cell_on b3 hlt2 d1
        have B3 : Below w.heap.size w w3 := B2.trans (b3.mono B2.size)
        have HR3 : Hid (r = true ↔ ∀ h : 0 < (l.take k).length, AboveP ((l.take k)[(l.take k).length - 1]'(by omega)).2 l[k].2) := hr3
        clear hr3 b3 B2 hlt2
        cases r
        · have HN : Hid (¬ WinP l) := fun h => by
            have h3 := HR3.out.2 (take_above h hlt)
            simp at h3
          obtain ⟨z0, z1, z2, z3, z4, z5, z6, z7, z8, z9⟩ := hz.cells
          obtain ⟨y0, y1, y2, y3, y4, y5, y6, y7, y8, y9⟩ := hz.free
          have HY : Hid _ := put10_cells hz (.int .i64 0) (.slice none 0 0) (.int .i64 0) (.slice none 0 0) (.int .i64 0) (.slice none 0 0) (.int .i64 0) (.slice none 0 0) (.int .i64 0) (.int .i64 0)
          clear HR2 HR3 hz hW
          go_wp2_with fail
          obtain ⟨Y0, Y1, Y2, Y3, Y4, Y5, Y6, Y7, Y8, Y9⟩ := HY.out
          unfold put10 at Y0 Y1 Y2 Y3 Y4 Y5 Y6 Y7 Y8 Y9
          exact bodyPost_ret (v := .tuple #[.agg zero10, .bool false]) (by simp [results, Tryz.results127, go_sem, Y0, Y1, Y2, Y3, Y4, Y5, Y6, Y7, Y8, Y9]) rfl ⟨.inr ⟨_, rfl, HN.out, winV_zero _⟩, put10_below B3 (Nat.le_refl _) _ _ _ _ _ _ _ _ _ _⟩
        · have HST : Hid (WinTo l (k + 1)) := winTo_step HTO.out hlt (HR2.out.1 (by trivial)) (fun h => above_take hlt h (HR3.out.1 (by trivial)))
          have HT : Hid (l.take (k + 1) = l.take k ++ [(l[k].1, l[k].2)]) := List.take_succ_eq_append_getElem hlt
          clear HR2 HR3 HTO
          go_wp2_with fail
          refine (push_room w w3 _ 0 (l.take k) l[k].1 _ l[k].2 hW ⟨s1, t1, rfl, hc1, r1⟩ (by rw [List.length_take]; omega)).mono ?_
          rintro e w4 ⟨rfl, hW4, b4⟩
          have hz4 := hz.but b4 (by omega)
          have B4 : Below w.heap.size w w4 := B3.trans (b4.below (by omega) B3.size)
          clear hW hz d0 d1 b4
          go_wp2_with fail
          exact ⟨⟨k + 1, by omega, by go_num, by rw [HT.out]; exact hW4, HST, hz4, B4⟩, by simp [intOf]; omega⟩
    · have HF : Hid (WinP l) := winP_of HTO.out hlt (by omega)
      rw [List.take_of_length_le (by omega)] at hW
      obtain ⟨z0, z1, z2, z3, z4, z5, z6, z7, z8, z9⟩ := hz.cells
      obtain ⟨y0, y1, y2, y3, y4, y5, y6, y7, y8, y9⟩ := hz.free
      obtain ⟨_, _, _, f, ⟨hrow, hsh⟩, e8, e9, hf'⟩ := hW
      obtain ⟨x0, a0, n0, c0, p0, p1⟩ := hsh 0 (by omega)
      obtain ⟨x1, a1, n1, c1, p2, p3⟩ := hsh 1 (by omega)
      obtain ⟨x2, a2, n2, c2, p4, p5⟩ := hsh 2 (by omega)
      obtain ⟨x3, a3, n3, c3, p6, p7⟩ := hsh 3 (by omega)
      have HV : Hid (WinV w (.agg #[.int .i64 x0, .slice a0 n0 c0, .int .i64 x1, .slice a1 n1 c1, .int .i64 x2, .slice a2 n2 c2, .int .i64 x3, .slice a3 n3 c3, .int .i64 0, .int .i64 l.length]) l) := winV_of (by omega) p0 p1 p2 p3 p4 p5 p6 p7 hf'
      have r0 : wr.cell? ⟨w.heap.size + 1, 0, none⟩ = some (.int .i64 x0) := by rw [hrow.cell (by omega), ← p0]
      have r1 : wr.cell? ⟨w.heap.size + 1, 1, none⟩ = some (.slice a0 n0 c0) := by rw [hrow.cell (by omega), ← p1]
      have r2 : wr.cell? ⟨w.heap.size + 1, 2, none⟩ = some (.int .i64 x1) := by rw [hrow.cell (by omega), ← p2]
      have r3 : wr.cell? ⟨w.heap.size + 1, 3, none⟩ = some (.slice a1 n1 c1) := by rw [hrow.cell (by omega), ← p3]
      have r4 : wr.cell? ⟨w.heap.size + 1, 4, none⟩ = some (.int .i64 x2) := by rw [hrow.cell (by omega), ← p4]
      have r5 : wr.cell? ⟨w.heap.size + 1, 5, none⟩ = some (.slice a2 n2 c2) := by rw [hrow.cell (by omega), ← p5]
      have r6 : wr.cell? ⟨w.heap.size + 1, 6, none⟩ = some (.int .i64 x3) := by rw [hrow.cell (by omega), ← p6]
      have r7 : wr.cell? ⟨w.heap.size + 1, 7, none⟩ = some (.slice a3 n3 c3) := by rw [hrow.cell (by omega), ← p7]
      have r8 : wr.cell? ⟨w.heap.size + 1, 8, none⟩ = some (.int .i64 0) := by rw [hrow.cell (by omega), e8]; rfl
      have r9 : wr.cell? ⟨w.heap.size + 1, 9, none⟩ = some (.int .i64 l.length) := by rw [hrow.cell (by omega), e9]
      have HY : Hid _ := put10_cells hz (.int .i64 x0) (.slice a0 n0 c0) (.int .i64 x1) (.slice a1 n1 c1) (.int .i64 x2) (.slice a2 n2 c2) (.int .i64 x3) (.slice a3 n3 c3) (.int .i64 0) (.int .i64 l.length)
      clear HTO hz hrow hsh e8 e9 hf' p0 p1 p2 p3 p4 p5 p6 p7 f
      go_wp2_with fail
      obtain ⟨Y0, Y1, Y2, Y3, Y4, Y5, Y6, Y7, Y8, Y9⟩ := HY.out
      unfold put10 at Y0 Y1 Y2 Y3 Y4 Y5 Y6 Y7 Y8 Y9
      exact bodyPost_ret (v := .tuple #[.agg #[.int .i64 x0, .slice a0 n0 c0, .int .i64 x1, .slice a1 n1 c1, .int .i64 x2, .slice a2 n2 c2, .int .i64 x3, .slice a3 n3 c3, .int .i64 0, .int .i64 l.length], .bool true]) (by simp [results, Tryz.results127, go_sem, Y0, Y1, Y2, Y3, Y4, Y5, Y6, Y7, Y8, Y9]) rfl ⟨.inl ⟨_, rfl, HF.out, HV.out⟩, put10_below hb (Nat.le_refl _) _ _ _ _ _ _ _ _ _ _⟩

end Go.Proofs.YtpfhegengmlkmacGreatDoor
/- Walks: (Item).fresh, (*window).items. -/
namespace Go.Proofs.YtpfhegengmlkmacGreatDoor
open Go.RowKit Go.BigFrame
set_option maxRecDepth 100000

set_option maxHeartbeats 1600000 in
theorem freshMarks_any (a : Option Addr) (c : Nat) (l : List (ByteArray × Int)) (w : World) (hr : Row w a l) (hl : l.length ≤ 1048576) (hs : ∀ j, (h : j < l.length) → l[j].1.size ≤ 281474976710656) :
    Calls Tryz.prog 100 #[.slice a l.length c] w fun e w' => (∃ g cap, e = .returned (.slice (some ⟨g, 0, none⟩) l.length cap) ∧ w.heap.size ≤ g ∧ l.length ≤ cap ∧ Own w' g l) ∧ Below w.heap.size w w' := by
  obtain ⟨i0, hi, hz0, hz1, hz2⟩ := info_parts Tryz.infoM
  have hmk : ∀ u : World, (Instr.makeSlice 34 (.int .i64 0) (.int .i64 (l.length : Int))).run Tryz.prog u =
      .ok (.slice (some ⟨u.heap.size, 0, none⟩) 0 l.length) (u.alloc (.cells (madeCells #[.string .empty, .int .i64 0] (l.length * 2)) 144)) := fun u => by
    have h := run_make (P := Tryz.prog) u 34 144 i0 (.agg #[.string .empty, .int .i64 0]) Tryz.underlying34 hi hz0 .i64 .i64 0 (l.length : Int) (by omega) (by omega) (by rw [hz2]; omega) (by omega)
    simpa [hz1, Value.cells] using h
  go_enter Tryz.func100, Tryz.ntmps100
  go_wp2_with fail
  have hg0 : Gath (w.alloc (.cells (madeCells #[.string .empty, .int .i64 0] (l.length * 2)) 144)) w.heap.size (.slice (some ⟨w.heap.size, 0, none⟩) 0 l.length) [] :=
    ⟨rfl, .inr ⟨w.heap.size, l.length, madeCells #[.string .empty, .int .i64 0] (l.length * 2), rfl, Nat.le_refl _, heap_alloc_new w _, Nat.zero_le _, by unfold maxLen; omega, size_madeCells _ _, rfl⟩⟩
  have hb0 : Below w.heap.size w (w.alloc (.cells (madeCells #[.string .empty, .int .i64 0] (l.length * 2)) 144)) := (Below.refl _ _).alloc (Nat.le_refl _) _
  generalize (w.alloc (.cells (madeCells #[.string .empty, .int .i64 0] (l.length * 2)) 144)) = WA at *
  clear hmk
  go_loopw [3, 11] (fun out i wr => ∃ k : Nat, k ≤ l.length ∧ i = .int .i64 k ∧ (∃ g cap, out = .slice (some ⟨g, 0, none⟩) k cap ∧ Gath wr w.heap.size (.slice (some ⟨g, 0, none⟩) k cap) (l.take k)) ∧ Below w.heap.size w wr) (fun _ i _ => l.length - (intOf i).toNat)
  case atStart => exact ⟨0, Nat.zero_le _, rfl, ⟨_, _, rfl, hg0⟩, hb0⟩
  case round =>
    obtain ⟨k, hk, rfl, ⟨g, cap, rfl, hg⟩, hb⟩ := hrel
    have hz := hb.size
    by_cases hlt : k < l.length
    · obtain ⟨b, o, rfl, hblt, e0, e1⟩ := hr k hlt
      have x0 := cell_on hb hblt e0
      have x1 := cell_on hb hblt e1
      have k0 : (0 : Int) ≤ (k : Int) := by omega
      have k1 : (k : Int) < (l.length : Int) := by omega
      have hsk := hs k hlt
      have HT : Hid (l.take (k + 1) = l.take k ++ [(l[k].1, l[k].2)]) := List.take_succ_eq_append_getElem hlt
      have htl : (l.take k).length = k := by rw [List.length_take]; omega
      clear e0 e1
      go_wp2_with fail
      have hbx : Below wr.heap.size wr (wr.alloc (.cells #[.string l[k].1, .int .i64 l[k].2] 144)) := (Below.refl _ _).alloc (Nat.le_refl _) _
      refine (fresh_any l[k].1 l[k].2 _ hsk).mono ?_
      rintro e w2 ⟨rfl, b2⟩
      have b2' : Below wr.heap.size wr w2 := hbx.trans (b2.mono hbx.size)
      have hg2 := hg.keep b2'
      have z2 := b2'.size
      have B2 : Below w.heap.size w w2 := hb.trans (b2'.mono hz)
      clear hg b2 b2' hbx hb x0 x1
      go_wp2_with (at_builtin; refine wpList_append_lies _ rfl _ _ 34 rfl w.heap.size 144 i0 (.agg #[.string .empty, .int .i64 0]) 2 24 Tryz.underlying34 hi hz0 hz1 hz2 rfl (by decide) _ _ _ rfl (hg2.alloc _) ⟨w2.heap.size, 0, none⟩ 1 1 [.string l[k].1, .int .i64 l[k].2] rfl rfl (two_new w2 _ _ _) (by simp [Value.oneCell']) (by decide) (by unfold maxLen; omega) (by omega) (by simp; omega) _ rfl ?_; intro g' cap' wx hown' hgrow _ _)
      have hb10 := Gath.grown (W := w) (B := w.heap.size) (w := w2.alloc (.cells #[.string l[k].1, .int .i64 l[k].2] 144)) (hg2.alloc _) (B2.alloc (by omega) _) (by simp; omega) hgrow
      have hg10 := Gath.snoc hown'
      rw [htl] at hg10
      exact ⟨⟨k + 1, by omega, by go_num, ⟨_, _, rfl, by rw [HT.out]; exact hg10⟩, hb10⟩, by simp [intOf]; omega⟩
    · obtain rfl : k = l.length := by omega
      rw [List.take_of_length_le (Nat.le_refl _)] at hg
      obtain ⟨hgB, hgc, ho⟩ := gath_own hg
      go_wp2_with fail
      go_ret
      exact ⟨⟨g, cap, rfl, hgB, hgc, ho⟩, hb⟩

set_option maxHeartbeats 1600000 in
theorem freshItem_any (x : Int) (a : Option Addr) (c : Nat) (l : List (ByteArray × Int)) (w : World) (hr : Row w a l) (hl : l.length ≤ 1048576) (hs : ∀ j, (h : j < l.length) → l[j].1.size ≤ 281474976710656) :
    Calls Tryz.prog 170 #[.agg #[.int .i64 x, .slice a l.length c]] w fun e w' => (∃ g cap, e = .returned (.agg #[.int .i64 x, .slice (some ⟨g, 0, none⟩) l.length cap]) ∧ w.heap.size ≤ g ∧ l.length ≤ cap ∧ Own w' g l) ∧ Below w.heap.size w w' := by
  go_enter Tryz.func170, Tryz.ntmps170
  go_wp2_with fail
  have hb0 : Below w.heap.size w ((w.alloc (.cells #[.int .i64 x, .slice a l.length c] 44)).alloc (.cells #[.int .i64 0, .slice none 0 0] 44)) := ((Below.refl _ _).alloc (Nat.le_refl _) _).alloc (by simp) _
  have hsz : ((w.alloc (.cells #[.int .i64 x, .slice a l.length c] 44)).alloc (.cells #[.int .i64 0, .slice none 0 0] 44)).heap.size = w.heap.size + 2 := by simp
  have c0 : ((w.alloc (.cells #[.int .i64 x, .slice a l.length c] 44)).alloc (.cells #[.int .i64 0, .slice none 0 0] 44)).cell? ⟨w.heap.size, 0, none⟩ = some (.int .i64 x) := by simp [go_sem]
  have c1 : ((w.alloc (.cells #[.int .i64 x, .slice a l.length c] 44)).alloc (.cells #[.int .i64 0, .slice none 0 0] 44)).cell? ⟨w.heap.size, 1, none⟩ = some (.slice a l.length c) := by simp [go_sem]
  have d0 : ((w.alloc (.cells #[.int .i64 x, .slice a l.length c] 44)).alloc (.cells #[.int .i64 0, .slice none 0 0] 44)).cell? ⟨w.heap.size + 1, 0, none⟩ = some (.int .i64 0) := by simp [go_sem]
  have d1 : ((w.alloc (.cells #[.int .i64 x, .slice a l.length c] 44)).alloc (.cells #[.int .i64 0, .slice none 0 0] 44)).cell? ⟨w.heap.size + 1, 1, none⟩ = some (.slice none 0 0) := by simp [go_sem]
  have f0 : ((w.alloc (.cells #[.int .i64 x, .slice a l.length c] 44)).alloc (.cells #[.int .i64 0, .slice none 0 0] 44)).frozen? ⟨w.heap.size + 1, 0, none⟩ = false := by simp [go_sem]
  have f1 : ((w.alloc (.cells #[.int .i64 x, .slice a l.length c] 44)).alloc (.cells #[.int .i64 0, .slice none 0 0] 44)).frozen? ⟨w.heap.size + 1, 1, none⟩ = false := by simp [go_sem]
  generalize ((w.alloc (.cells #[.int .i64 x, .slice a l.length c] 44)).alloc (.cells #[.int .i64 0, .slice none 0 0] 44)) = WA at *
  have SW : WA.drew.cell? ⟨w.heap.size, 0, none⟩ = some (.int .i64 x) ∧ WA.drew.cell? ⟨w.heap.size, 1, none⟩ = some (.slice a l.length c) := ⟨c0, c1⟩
  refine wp_region_held_drew (S := fun u => u.cell? ⟨w.heap.size, 0, none⟩ = some (.int .i64 x) ∧ u.cell? ⟨w.heap.size, 1, none⟩ = some (.slice a l.length c)) (by kernel_rfl) SW (fun _ => ?_)
  refine wpAnyH_take (i := 0) (v := .pointer (some ⟨w.heap.size, 0, none⟩)) rfl (by kernel_rfl) (by kernel_rfl) (by kernel_rfl) (fun _ _ _ h => h) (Or.inl ⟨by rfl, ?_⟩) SW ?_
  · rintro u ⟨q1, q2⟩
    go_simp
  simp only [Act.put, List.setIfInBounds_toArray]
  refine wpAnyH_take (i := 1) (v := .int .i64 x) rfl (by kernel_rfl) (by kernel_rfl) (by kernel_rfl) (fun _ _ _ h => h) (Or.inl ⟨by rfl, ?_⟩) SW ?_
  · rintro u ⟨q1, q2⟩
    go_simp
  simp only [Act.put]
  refine wpAnyH_take (i := 2) (v := .pointer (some ⟨w.heap.size, 1, none⟩)) rfl (by kernel_rfl) (by kernel_rfl) (by kernel_rfl) (fun _ _ _ h => h) (Or.inl ⟨by rfl, ?_⟩) SW ?_
  · rintro u ⟨q1, q2⟩
    go_simp
  simp only [Act.put]
  refine wpAnyH_take (i := 3) (v := .slice a l.length c) rfl (by kernel_rfl) (by kernel_rfl) (by kernel_rfl) (fun _ _ _ h => h) (Or.inl ⟨by rfl, ?_⟩) SW ?_
  · rintro u ⟨q1, q2⟩
    go_simp
  simp only [Act.put]
  refine wpAnyH_ready (rs := [4]) (by kernel_rfl) (by simp) ?_
  refine AllReadyH.cons rfl (fun K hK => ?_) AllReadyH.nil
  rw [if_pos (by rfl)]
  go_simp
  have hbd : Below w.heap.size w WA.drew := hb0.drew
  refine (freshMarks_any a c l _ (hr.below hbd) hl hs).mono ?_
  rintro e w2 ⟨⟨g, cap, rfl, hg, hcap, ho⟩, b2⟩
  have b2' : Below WA.heap.size WA w2 := ((Below.refl _ _).drew).trans b2
  have hgl : w.heap.size + 2 ≤ g := by have : WA.drew.heap.size = WA.heap.size := rfl; omega
  have S2 : w2.cell? ⟨w.heap.size, 0, none⟩ = some (.int .i64 x) ∧ w2.cell? ⟨w.heap.size, 1, none⟩ = some (.slice a l.length c) := ⟨cell_on b2' (by omega) c0, cell_on b2' (by omega) c1⟩
  have B2 : Below w.heap.size w w2 := hb0.trans (b2'.mono (by omega))
  have x0 := cell_on b2' (by omega) d0
  have x1 := cell_on b2' (by omega) d1
  have y0 : w2.frozen? ⟨w.heap.size + 1, 0, none⟩ = false := (b2'.frozen (p := ⟨w.heap.size + 1, 0, none⟩) (by simp only; omega)).trans f0
  have y1 : w2.frozen? ⟨w.heap.size + 1, 1, none⟩ = false := (b2'.frozen (p := ⟨w.heap.size + 1, 1, none⟩) (by simp only; omega)).trans f1
  refine hK.out _ _ S2 (fun _ => ?_)
  clear hK K b2 SW hbd c0 c1 d0 d1 f0 f1 hb0 b2'
  refine wpAnyH_take (i := 5) (v := .agg #[.int .i64 x, .slice (some ⟨g, 0, none⟩) l.length cap]) rfl (by kernel_rfl) (by kernel_rfl) (by kernel_rfl) (fun _ _ _ h => h) (Or.inl ⟨by rfl, ?_⟩) S2 ?_
  · rintro u ⟨q1, q2⟩
    go_simp
  simp only [Act.put, List.setIfInBounds_toArray]
  refine wpAnyH_ready (rs := [6]) (by kernel_rfl) (by simp) ?_
  refine AllReadyH.cons rfl (fun K hK => ?_) AllReadyH.nil
  rw [if_pos (by rfl)]
  go_simp
  have S3 : ((w2.setCell ⟨w.heap.size + 1, 0, none⟩ (.int .i64 x)).setCell ⟨w.heap.size + 1, 1, none⟩ (.slice (some ⟨g, 0, none⟩) l.length cap)).cell? ⟨w.heap.size, 0, none⟩ = some (.int .i64 x) ∧ ((w2.setCell ⟨w.heap.size + 1, 0, none⟩ (.int .i64 x)).setCell ⟨w.heap.size + 1, 1, none⟩ (.slice (some ⟨g, 0, none⟩) l.length cap)).cell? ⟨w.heap.size, 1, none⟩ = some (.slice a l.length c) := by
    simp only [set_far _ _ _ _ (show w.heap.size ≠ w.heap.size + 1 by omega)]
    exact S2
  refine hK.out _ _ S3 (fun _ => ?_)
  clear hK K
  refine wpAnyH_done (by kernel_rfl) ?_ _
  go_wp2_with fail
  have z0 : ((w2.setCell ⟨w.heap.size + 1, 0, none⟩ (.int .i64 x)).setCell ⟨w.heap.size + 1, 1, none⟩ (.slice (some ⟨g, 0, none⟩) l.length cap)).cell? ⟨w.heap.size + 1, 0, none⟩ = some (.int .i64 x) := by simp [go_sem, x0]
  have z1 : ((w2.setCell ⟨w.heap.size + 1, 0, none⟩ (.int .i64 x)).setCell ⟨w.heap.size + 1, 1, none⟩ (.slice (some ⟨g, 0, none⟩) l.length cap)).cell? ⟨w.heap.size + 1, 1, none⟩ = some (.slice (some ⟨g, 0, none⟩) l.length cap) := by simp [go_sem, x1]
  exact bodyPost_ret (v := .agg #[.int .i64 x, .slice (some ⟨g, 0, none⟩) l.length cap]) (by simp [results, Tryz.results170, go_sem, z0, z1]) rfl
    ⟨⟨g, cap, rfl, by omega, hcap, (ho.setOther (by omega) _ _).setOther (by omega) _ _⟩, (B2.setCell (by simp only; omega) _).setCell (by simp only; omega) _⟩

set_option maxHeartbeats 1600000 in
theorem items_any (W0 w : World) (b s : Nat) (l : List ItemL) (h : WinB W0 w b s l) (hW : Below W0.heap.size W0 w) (hl : ∀ k, (h : k < l.length) → StampP l[k].2) :
    Calls Tryz.prog 130 #[.pointer (some ⟨b, 0, none⟩)] w fun e w' => (∃ v, e = .returned v ∧ GathI w' w.heap.size v l) ∧ Below w.heap.size w w' := by
  obtain ⟨i0, hi, hz0, hz1, hz2⟩ := info_parts Tryz.infoI
  have h4 := h.2.2.1
  have hmk : ∀ u : World, (Instr.makeSlice 78 (.int .i64 0) (.int .i64 (l.length : Int))).run Tryz.prog u =
      .ok (.slice (some ⟨u.heap.size, 0, none⟩) 0 l.length) (u.alloc (.cells (madeCells #[.int .i64 0, .slice none 0 0] (l.length * 2)) 44)) := fun u => by
    have h := run_make (P := Tryz.prog) u 78 44 i0 (.agg #[.int .i64 0, .slice none 0 0]) Tryz.underlying78 hi hz0 .i64 .i64 0 (l.length : Int) (by omega) (by omega) (by rw [hz2]; omega) (by omega)
    simpa [hz1, Value.cells] using h
  go_enter Tryz.func130, Tryz.ntmps130
  go_wp2_with fail
  refine (size_any W0 w b s l h).mono ?_
  rintro e w1 ⟨rfl, rfl⟩
  go_wp2_with fail
  have hb0 : Below w1.heap.size w1 (w1.alloc (.cells (madeCells #[.int .i64 0, .slice none 0 0] (l.length * 2)) 44)) := (Below.refl _ _).alloc (Nat.le_refl _) _
  have hsz : (w1.alloc (.cells (madeCells #[.int .i64 0, .slice none 0 0] (l.length * 2)) 44)).heap.size = w1.heap.size + 1 := by simp
  have hg0 : GathI (w1.alloc (.cells (madeCells #[.int .i64 0, .slice none 0 0] (l.length * 2)) 44)) w1.heap.size (.slice (some ⟨w1.heap.size, 0, none⟩) 0 l.length) [] :=
    ⟨[], rfl, ⟨rfl, .inr ⟨w1.heap.size, l.length, madeCells #[.int .i64 0, .slice none 0 0] (l.length * 2), rfl, Nat.le_refl _, heap_alloc_new w1 _, Nat.zero_le _, by unfold maxLen; omega, size_madeCells _ _, rfl⟩⟩, by simp, List.Pairwise.nil⟩
  have hW1 := h.below hb0
  have hWl := h.lt
  generalize (w1.alloc (.cells (madeCells #[.int .i64 0, .slice none 0 0] (l.length * 2)) 44)) = W1 at *
  refine (size_any W0 W1 b s l hW1).mono ?_
  rintro e w2 ⟨rfl, rfl⟩
  clear hmk
  go_wp2_with fail
  have hzW := hW.size
  go_loopw [3, 14] (fun out i wr => ∃ k : Nat, k ≤ l.length ∧ i = .int .i64 k ∧ GathI wr w1.heap.size out (l.take k) ∧ Below w1.heap.size w1 wr) (fun _ i _ => l.length - (intOf i).toNat)
  case atStart => exact ⟨0, Nat.zero_le _, rfl, hg0, hb0⟩
  case round =>
    obtain ⟨k, hk, rfl, hg, hb⟩ := hrel
    clear hg0 hb0 hW1
    by_cases hlt : k < l.length
    · have k0 : (0 : Int) ≤ (k : Int) := by omega
      have k1 : (k : Int) < (l.length : Int) := by omega
      have HT : Hid (l.take (k + 1) = l.take k ++ [(l[k].1, l[k].2)]) := List.take_succ_eq_append_getElem hlt
      have htl : (l.take k).length ≤ 1048576 := by rw [List.length_take]; omega
      have hzr := hb.size
      have hst := hl k hlt
      have hfk := stamp_fit hst
      have hlk : l[k].2.length ≤ 1048576 := by have := hst.1; omega
      have hsk : ∀ j, (h : j < l[k].2.length) → l[k].2[j].1.size ≤ 281474976710656 := fun j hj => by have := (hst.2.1 j hj).1.2.1; omega
      have HL : Hid (∀ j, (h : j < l[k].2.length) → l[k].2[j].1.size ≤ 281474976710656) := hsk
      clear hsk hst hfk
      go_wp2_with fail
      refine (at_any W0 wr b s l k (h.below hb) hlt).mono ?_
      rintro e w3 ⟨⟨v, rfl, sa, sc, rfl, hcap, hrow⟩, b3⟩
      have B3 : Below w1.heap.size w1 w3 := hb.trans (b3.mono hzr)
      have hrow3 := hrow.below (hW.trans (B3.mono hzW))
      go_wp2_with fail
      refine (freshItem_any l[k].1 sa sc l[k].2 _ hrow3 hlk HL.out).mono ?_
      rintro e w4 ⟨⟨gm, cm, rfl, hgm, hcm, ho⟩, b4⟩
      have b4' : Below wr.heap.size wr w4 := b3.trans (b4.mono b3.size)
      have z3 := b3.size
      have z4 := b4'.size
      have b5 : Below wr.heap.size wr (w4.alloc (.cells #[.int .i64 l[k].1, .slice (some ⟨gm, 0, none⟩) l[k].2.length cm] 44)) := b4'.alloc b4'.size _
      have hbx : Below w4.heap.size w4 (w4.alloc (.cells #[.int .i64 l[k].1, .slice (some ⟨gm, 0, none⟩) l[k].2.length cm] 44)) := (Below.refl _ _).alloc (Nat.le_refl _) _
      have ho5 := ho.below hbx
      have B5 : Below w1.heap.size w1 (w4.alloc (.cells #[.int .i64 l[k].1, .slice (some ⟨gm, 0, none⟩) l[k].2.length cm] 44)) := hb.trans (b5.mono hzr)
      clear b3 b4 b4' B3 hrow3 hrow hbx ho
      go_wp2_with (at_builtin; refine wpList_append_item rfl _ _ rfl wr w1.heap.size _ (l.take k) rfl hg b5 hzr w4.heap.size l[k].1 l[k].2 gm cm rfl (box0 _ _ _ _) (box1 _ _ _ _) ho5 (by omega) hcm htl ?_; intro v' w6 hg6 b6)
      exact ⟨⟨k + 1, by omega, by go_num, by rw [HT.out]; exact hg6, B5.trans b6⟩, by simp [intOf]; omega⟩
    · rw [List.take_of_length_le (by omega)] at hg
      go_wp2_with fail
      go_ret
      exact ⟨⟨_, rfl, hg⟩, hb⟩

end Go.Proofs.YtpfhegengmlkmacGreatDoor
/- Walks: WindowLast of both. -/
namespace Go.Proofs.YtpfhegengmlkmacGreatDoor
open Go.RowKit Go.BigFrame
set_option maxRecDepth 100000

/-- What WindowLast answers. -/
def IsL (l : List ItemL) (x : Int) (m : List (ByteArray × Int)) (ok : Bool) : Prop :=
  (∀ h : WinP l ∧ 0 < l.length, ok = true ∧ (x, m) = l[l.length - 1]'(by omega)) ∧ (¬ (WinP l ∧ 0 < l.length) → ok = false ∧ x = 0 ∧ m = [])
theorem IsL.one {l : List ItemL} {x x' : Int} {m m' : List (ByteArray × Int)} {ok ok' : Bool} (h : IsL l x m ok) (h' : IsL l x' m' ok') : x = x' ∧ m = m' ∧ ok = ok' := by
  by_cases hp : WinP l ∧ 0 < l.length
  · have e := (h.1 hp).2.trans (h'.1 hp).2.symm
    exact ⟨(Prod.mk.inj e).1, (Prod.mk.inj e).2, (h.1 hp).1.trans (h'.1 hp).1.symm⟩
  · obtain ⟨h1, h2, h3⟩ := h.2 hp
    obtain ⟨h1', h2', h3'⟩ := h'.2 hp
    exact ⟨h2.trans h2'.symm, h3.trans h3'.symm, h1.trans h1'.symm⟩
/-- How WindowLast ends: an item whose marks lie in new memory, and whether there is one. -/
def LastE (w' : World) (B : Nat) (l : List ItemL) (e : Ending) : Prop := ∃ x a c m ok, e = .returned (.tuple #[.agg #[.int .i64 x, .slice a m.length c], .bool ok]) ∧ IsL l x m ok ∧ m.length ≤ c ∧ Safe w' B w'.heap.size a m

theorem win_small {l : List ItemL} (h : WinP l) : Small1 l := ⟨by have := h.1; omega, fun j hj => by have := (h.2.1 j hj).1.1; omega⟩
theorem Own.safe {w : World} {B g : Nat} {m : List (ByteArray × Int)} (h : Own w g m) (hB : B ≤ g) : Safe w B w.heap.size (some ⟨g, 0, none⟩) m := .inr ⟨g, rfl, hB, h.lt, h⟩

theorem gathI_one {w : World} {B : Nat} {v : Value} {x : Int} {m : List (ByteArray × Int)} (h : GathI w B v [(x, m)]) : ∃ g gm cm cap, v = .slice (some ⟨g, 0, none⟩) 1 cap ∧ w.cell? ⟨g, 0, none⟩ = some (.int .i64 x) ∧ w.cell? ⟨g, 1, none⟩ = some (.slice (some ⟨gm, 0, none⟩) m.length cm) ∧ m.length ≤ cm ∧ Own w gm m ∧ B ≤ gm ∧ g < w.heap.size := by
  obtain ⟨a, cap, rfl, _, hs⟩ := h.safe
  rcases hs with hs | ⟨g, rfl, _, hg, G, C, n, f, hr, hn, hf, _⟩
  · cases hs
  · obtain ⟨e0, e1, e2, e3, e4, _⟩ := hf 0 (by simp) (by simp)
    simp only [List.length_cons, List.length_nil] at hn
    refine ⟨g, G 0, C 0, cap, rfl, ?_, ?_, e2, e3, e4, hg⟩
    · rw [hr.cell (by omega)]; exact congrArg some e0
    · rw [hr.cell (by omega)]; exact congrArg some e1
theorem rowI_last {w : World} {b o : Nat} {l : List ItemL} (h : RowI w (some ⟨b, o, none⟩) l) (h0 : 0 < l.length) : RowI w (some ⟨b, o + (l.length - 1) * 2, none⟩) [((l[l.length - 1]'(by omega)).1, (l[l.length - 1]'(by omega)).2)] := fun k hk => by
  obtain rfl : k = 0 := by simpa using hk
  obtain ⟨b', o', ha, hlt, c0, v, c1, hv⟩ := h (l.length - 1) (by omega)
  obtain ⟨rfl, rfl⟩ : b = b' ∧ o = o' := by simpa using ha
  exact ⟨b, _, rfl, hlt, by simpa using c0, v, by simpa using c1, hv⟩
theorem isL_no {l : List ItemL} (h : ¬ (WinP l ∧ 0 < l.length)) : IsL l 0 [] false := ⟨fun q => absurd q h, fun _ => ⟨rfl, rfl, rfl⟩⟩
theorem isL_yes {l : List ItemL} (h : WinP l) (h0 : 0 < l.length) : IsL l (l[l.length - 1]'(by omega)).1 (l[l.length - 1]'(by omega)).2 true := ⟨fun _ => ⟨rfl, rfl⟩, fun q => absurd ⟨h, h0⟩ q⟩

set_option maxHeartbeats 1600000 in
theorem specLast_any (a : Option Addr) (cap : Nat) (l : List ItemL) (w : World) (hf : FitI l) (hc : l.length ≤ cap) (hr : RowI w a l) :
    Calls Tryz.prog 154 #[.slice a l.length cap] w fun e w' => LastE w' w.heap.size l e ∧ Below w.heap.size w w' := by
  have hl := hf.1
  unfold maxLen at hl
  have hb0 : Below w.heap.size w (w.alloc (.cells #[.int .i64 0, .slice none 0 0] 44)) := (Below.refl _ _).alloc (Nat.le_refl _) _
  have d0 := box0 w (.int .i64 0) (.slice none 0 0) 44
  have d1 := box1 w (.int .i64 0) (.slice none 0 0) 44
  have f0 : (w.alloc (.cells #[.int .i64 0, .slice none 0 0] 44)).frozen? ⟨w.heap.size, 0, none⟩ = false := by simp [go_sem]
  have f1 : (w.alloc (.cells #[.int .i64 0, .slice none 0 0] 44)).frozen? ⟨w.heap.size, 1, none⟩ = false := by simp [go_sem]
  have hlt := box_lt w (.cells #[.int .i64 0, .slice none 0 0] 44)
  go_enter Tryz.func154, Tryz.ntmps154
  go_wp2_with fail
  generalize w.alloc (.cells #[.int .i64 0, .slice none 0 0] 44) = W1 at *
  refine (specWinOk_any a cap l _ hf (hr.below hb0)).mono ?_
  rintro e w2 ⟨⟨r, rfl, hr2⟩, b2⟩
  have HR : Hid (r = true ↔ WinP l) := hr2
  replace d0 := cell_on b2 hlt d0
  replace d1 := cell_on b2 hlt d1
  replace f0 := (b2.frozen (p := ⟨w.heap.size, 0, none⟩) hlt).trans f0
  replace f1 := (b2.frozen (p := ⟨w.heap.size, 1, none⟩) hlt).trans f1
  have B2 : Below w.heap.size w w2 := hb0.trans (b2.mono hb0.size)
  have hlt2 : w.heap.size < w2.heap.size := Nat.lt_of_lt_of_le hlt b2.size
  clear hr2 b2 hb0 hlt
  have HZ : Hid (¬ (WinP l ∧ 0 < l.length) → LastE ((w2.setCell ⟨w.heap.size, 0, none⟩ (.int .i64 0)).setCell ⟨w.heap.size, 1, none⟩ (.slice none 0 0)) w.heap.size l (.returned (.tuple #[.agg #[.int .i64 0, .slice none 0 0], .bool false])) ∧ Below w.heap.size w ((w2.setCell ⟨w.heap.size, 0, none⟩ (.int .i64 0)).setCell ⟨w.heap.size, 1, none⟩ (.slice none 0 0))) :=
    fun hn => ⟨⟨0, none, 0, [], false, rfl, isL_no hn, Nat.le_refl _, .inl rfl⟩, (B2.setCell (Nat.le_refl _) _).setCell (Nat.le_refl _) _⟩
  have z0 : ((w2.setCell ⟨w.heap.size, 0, none⟩ (.int .i64 0)).setCell ⟨w.heap.size, 1, none⟩ (.slice none 0 0)).cell? ⟨w.heap.size, 0, none⟩ = some (.int .i64 0) := by simp [go_sem, d0]
  have z1 : ((w2.setCell ⟨w.heap.size, 0, none⟩ (.int .i64 0)).setCell ⟨w.heap.size, 1, none⟩ (.slice none 0 0)).cell? ⟨w.heap.size, 1, none⟩ = some (.slice none 0 0) := by simp [go_sem, d1]
  have HZ0 : Hid _ := z0
  have HZ1 : Hid _ := z1
  clear z0 z1
  cases r
  · have HN : Hid (¬ (WinP l ∧ 0 < l.length)) := fun h => by simpa using HR.out.2 h.1
    clear HR
    go_wp2_with fail
    exact bodyPost_ret (v := .tuple #[.agg #[.int .i64 0, .slice none 0 0], .bool false]) (by simp [results, Tryz.results154, go_sem, HZ0.out, HZ1.out]) rfl (HZ.out HN.out)
  · by_cases h0 : 0 < l.length
    · have HP : Hid (WinP l) := HR.out.1 rfl
      have h0' : ((l.length : Int) == 0) = false := by rw [beq_eq_false_iff_ne]; omega
      obtain ⟨b, o, rfl, hblt, _⟩ := hr 0 h0
      have hrl := rowI_last (hr.below B2) h0
      have hsm : Small1 [((l[l.length - 1]'(by omega)).1, (l[l.length - 1]'(by omega)).2)] := ⟨by simp, fun j hj => by
        obtain rfl : j = 0 := by simpa using hj
        exact (win_small HP.out).2 _ (by omega)⟩
      have HL : Hid (IsL l (l[l.length - 1]'(by omega)).1 (l[l.length - 1]'(by omega)).2 true) := isL_yes HP.out h0
      generalize hq : l[l.length - 1] = q at *
      obtain ⟨q1, q2⟩ := q
      simp only at hrl hsm HL
      clear hq HR HZ HZ0 HZ1
      go_wp2_with fail
      have e1 : l.length - (l.length - 1) = 1 := by omega
      rw [e1]
      refine (l2Items_any (some ⟨b, o + (l.length - 1) * 2, none⟩) (cap - (l.length - 1)) [(q1, q2)] _ hsm hrl).mono ?_
      rintro e w3 ⟨⟨v, rfl, hg⟩, b3⟩
      obtain ⟨g, gm, cm, cg, rfl, y0, y1, hcm, ho, hB, hgl⟩ := gathI_one hg
      replace d0 := cell_on b3 hlt2 d0
      replace d1 := cell_on b3 hlt2 d1
      replace f0 := (b3.frozen (p := ⟨w.heap.size, 0, none⟩) hlt2).trans f0
      replace f1 := (b3.frozen (p := ⟨w.heap.size, 1, none⟩) hlt2).trans f1
      have B3 : Below w.heap.size w w3 := B2.trans (b3.mono B2.size)
      clear b3 B2 hg hrl hsm e1
      go_wp2_with fail
      have z0 : ((w3.setCell ⟨w.heap.size, 0, none⟩ (.int .i64 q1)).setCell ⟨w.heap.size, 1, none⟩ (.slice (some ⟨gm, 0, none⟩) q2.length cm)).cell? ⟨w.heap.size, 0, none⟩ = some (.int .i64 q1) := by simp [go_sem, d0]
      have z1 : ((w3.setCell ⟨w.heap.size, 0, none⟩ (.int .i64 q1)).setCell ⟨w.heap.size, 1, none⟩ (.slice (some ⟨gm, 0, none⟩) q2.length cm)).cell? ⟨w.heap.size, 1, none⟩ = some (.slice (some ⟨gm, 0, none⟩) q2.length cm) := by simp [go_sem, d1]
      exact bodyPost_ret (v := .tuple #[.agg #[.int .i64 q1, .slice (some ⟨gm, 0, none⟩) q2.length cm], .bool true]) (by simp [results, Tryz.results154, go_sem, z0, z1]) rfl
        ⟨⟨q1, _, cm, q2, true, rfl, HL.out, hcm, ((ho.setOther (by omega) _ _).setOther (by omega) _ _).safe (by omega)⟩, (B3.setCell (Nat.le_refl _) _).setCell (Nat.le_refl _) _⟩
    · have h0' : ((l.length : Int) == 0) = true := by rw [beq_iff_eq]; omega
      have HN : Hid (¬ (WinP l ∧ 0 < l.length)) := fun h => h0 h.2
      clear HR
      go_wp2_with fail
      exact bodyPost_ret (v := .tuple #[.agg #[.int .i64 0, .slice none 0 0], .bool false]) (by simp [results, Tryz.results154, go_sem, HZ0.out, HZ1.out]) rfl (HZ.out HN.out)

set_option maxHeartbeats 1600000 in
theorem implLast_any (a : Option Addr) (cap : Nat) (l : List ItemL) (w : World) (hf : FitI l) (hr : RowI w a l) :
    Calls Tryz.prog 194 #[.slice a l.length cap] w fun e w' => LastE w' w.heap.size l e ∧ Below w.heap.size w w' := by
  have hl := hf.1
  unfold maxLen at hl
  have hb0 : Below w.heap.size w (w.alloc (.cells #[.int .i64 0, .slice none 0 0] 44)) := (Below.refl _ _).alloc (Nat.le_refl _) _
  have d0 := box0 w (.int .i64 0) (.slice none 0 0) 44
  have d1 := box1 w (.int .i64 0) (.slice none 0 0) 44
  have f0 : (w.alloc (.cells #[.int .i64 0, .slice none 0 0] 44)).frozen? ⟨w.heap.size, 0, none⟩ = false := by simp [go_sem]
  have f1 : (w.alloc (.cells #[.int .i64 0, .slice none 0 0] 44)).frozen? ⟨w.heap.size, 1, none⟩ = false := by simp [go_sem]
  have hlt := box_lt w (.cells #[.int .i64 0, .slice none 0 0] 44)
  go_enter Tryz.func194, Tryz.ntmps194
  go_wp2_with fail
  generalize w.alloc (.cells #[.int .i64 0, .slice none 0 0] 44) = W1 at *
  refine (readWindow_any a cap l _ hf (hr.below hb0)).mono ?_
  rintro e w2 ⟨hE, b2⟩
  have B2 : Below w.heap.size w w2 := hb0.trans (b2.mono hb0.size)
  have BW : Below W1.heap.size W1 w2 := b2
  replace d0 := cell_on b2 hlt d0
  replace d1 := cell_on b2 hlt d1
  replace f0 := (b2.frozen (p := ⟨w.heap.size, 0, none⟩) hlt).trans f0
  replace f1 := (b2.frozen (p := ⟨w.heap.size, 1, none⟩) hlt).trans f1
  have hlt2 : w.heap.size < w2.heap.size := Nat.lt_of_lt_of_le hlt b2.size
  clear hb0 b2
  rcases hE with ⟨v, rfl, hp, hv⟩ | ⟨v, rfl, hp, hv⟩
  · have HP : Hid (WinP l) := hp
    clear hp
    obtain ⟨x0, x1, x2, x3, a0, a1, a2, a3, n0, n1, n2, n3, c0, c1, c2, c3, rfl, hw⟩ := hv.laid
    have hW := hw w2 BW.size
    have hbx : Below w2.heap.size w2 (w2.alloc (.cells #[.int .i64 x0, .slice a0 n0 c0, .int .i64 x1, .slice a1 n1 c1, .int .i64 x2, .slice a2 n2 c2, .int .i64 x3, .slice a3 n3 c3, .int .i64 0, .int .i64 l.length] 190)) := (Below.refl _ _).alloc (Nat.le_refl _) _
    have B3 := B2.trans (hbx.mono B2.size)
    have BW3 := BW.trans (hbx.mono BW.size)
    replace d0 := cell_on hbx hlt2 d0
    replace d1 := cell_on hbx hlt2 d1
    replace f0 := (hbx.frozen (p := ⟨w.heap.size, 0, none⟩) hlt2).trans f0
    replace f1 := (hbx.frozen (p := ⟨w.heap.size, 1, none⟩) hlt2).trans f1
    have hlt3 : w.heap.size < (w2.alloc (.cells #[.int .i64 x0, .slice a0 n0 c0, .int .i64 x1, .slice a1 n1 c1, .int .i64 x2, .slice a2 n2 c2, .int .i64 x3, .slice a3 n3 c3, .int .i64 0, .int .i64 l.length] 190)).heap.size := Nat.lt_of_lt_of_le hlt2 hbx.size
    clear hw hv hbx
    go_wp2_with fail
    generalize w2.alloc (.cells #[.int .i64 x0, .slice a0 n0 c0, .int .i64 x1, .slice a1 n1 c1, .int .i64 x2, .slice a2 n2 c2, .int .i64 x3, .slice a3 n3 c3, .int .i64 0, .int .i64 l.length] 190) = W3 at *
    clear B2 BW
    refine (size_any W1 W3 _ 0 l hW).mono ?_
    rintro e w4 ⟨rfl, rfl⟩
    by_cases h0 : 0 < l.length
    · have h0' : ((l.length : Int) == 0) = false := by rw [beq_eq_false_iff_ne]; omega
      have HL : Hid (IsL l (l[l.length - 1]'(by omega)).1 (l[l.length - 1]'(by omega)).2 true) := isL_yes HP.out h0
      have hst := (HP.out.2.1 (l.length - 1) (by omega)).1
      go_wp2_with fail
      refine (last_any W1 w4 _ 0 l hW h0).mono ?_
      rintro e w5 ⟨⟨v, rfl, sa, sc, rfl, hcap, hrow⟩, b5⟩
      generalize hq : l[l.length - 1] = q at *
      obtain ⟨q1, q2⟩ := q
      simp only at hst HL hcap hrow
      replace d0 := cell_on b5 hlt3 d0
      replace d1 := cell_on b5 hlt3 d1
      replace f0 := (b5.frozen (p := ⟨w.heap.size, 0, none⟩) hlt3).trans f0
      replace f1 := (b5.frozen (p := ⟨w.heap.size, 1, none⟩) hlt3).trans f1
      have hlt5 : w.heap.size < w5.heap.size := Nat.lt_of_lt_of_le hlt3 b5.size
      have B5 : Below w.heap.size w w5 := B3.trans (b5.mono B3.size)
      have BW5 : Below W1.heap.size W1 w5 := BW3.trans (b5.mono BW3.size)
      have hrow5 := hrow.below BW5
      have hlk : q2.length ≤ 1048576 := by have := hst.1; omega
      have HS : Hid (∀ j, (h : j < q2.length) → q2[j].1.size ≤ 281474976710656) := fun j hj => by have := (hst.2.1 j hj).1.2.1; omega
      clear b5 B3 BW3 BW5 hrow hst hq hW hlt3
      go_wp2_with fail
      refine (freshItem_any q1 sa sc q2 _ hrow5 hlk HS.out).mono ?_
      rintro e w6 ⟨⟨gm, cm, rfl, hgm, hcm, ho⟩, b6⟩
      replace d0 := cell_on b6 hlt5 d0
      replace d1 := cell_on b6 hlt5 d1
      replace f0 := (b6.frozen (p := ⟨w.heap.size, 0, none⟩) hlt5).trans f0
      replace f1 := (b6.frozen (p := ⟨w.heap.size, 1, none⟩) hlt5).trans f1
      have B6 : Below w.heap.size w w6 := B5.trans (b6.mono B5.size)
      clear b6 B5 hrow5
      go_wp2_with fail
      have z0 : ((w6.setCell ⟨w.heap.size, 0, none⟩ (.int .i64 q1)).setCell ⟨w.heap.size, 1, none⟩ (.slice (some ⟨gm, 0, none⟩) q2.length cm)).cell? ⟨w.heap.size, 0, none⟩ = some (.int .i64 q1) := by simp [go_sem, d0]
      have z1 : ((w6.setCell ⟨w.heap.size, 0, none⟩ (.int .i64 q1)).setCell ⟨w.heap.size, 1, none⟩ (.slice (some ⟨gm, 0, none⟩) q2.length cm)).cell? ⟨w.heap.size, 1, none⟩ = some (.slice (some ⟨gm, 0, none⟩) q2.length cm) := by simp [go_sem, d1]
      exact bodyPost_ret (v := .tuple #[.agg #[.int .i64 q1, .slice (some ⟨gm, 0, none⟩) q2.length cm], .bool true]) (by simp [results, Tryz.results194, go_sem, z0, z1]) rfl
        ⟨⟨q1, _, cm, q2, true, rfl, HL.out, hcm, ((ho.setOther (by omega) _ _).setOther (by omega) _ _).safe (by omega)⟩, (B6.setCell (Nat.le_refl _) _).setCell (Nat.le_refl _) _⟩
    · have h0' : ((l.length : Int) == 0) = true := by rw [beq_iff_eq]; omega
      have HN : Hid (¬ (WinP l ∧ 0 < l.length)) := fun h => h0 h.2
      go_wp2_with fail
      have z0 : ((w4.setCell ⟨w.heap.size, 0, none⟩ (.int .i64 0)).setCell ⟨w.heap.size, 1, none⟩ (.slice none 0 0)).cell? ⟨w.heap.size, 0, none⟩ = some (.int .i64 0) := by simp [go_sem, d0]
      have z1 : ((w4.setCell ⟨w.heap.size, 0, none⟩ (.int .i64 0)).setCell ⟨w.heap.size, 1, none⟩ (.slice none 0 0)).cell? ⟨w.heap.size, 1, none⟩ = some (.slice none 0 0) := by simp [go_sem, d1]
      exact bodyPost_ret (v := .tuple #[.agg #[.int .i64 0, .slice none 0 0], .bool false]) (by simp [results, Tryz.results194, go_sem, z0, z1]) rfl ⟨⟨0, none, 0, [], false, rfl, isL_no HN.out, Nat.le_refl _, .inl rfl⟩, (B3.setCell (Nat.le_refl _) _).setCell (Nat.le_refl _) _⟩
  · have HN : Hid (¬ (WinP l ∧ 0 < l.length)) := fun h => hp h.1
    obtain ⟨x0, x1, x2, x3, a0, a1, a2, a3, n0, n1, n2, n3, c0, c1, c2, c3, rfl, hw⟩ := hv.laid
    have z0 : ((w2.setCell ⟨w.heap.size, 0, none⟩ (.int .i64 0)).setCell ⟨w.heap.size, 1, none⟩ (.slice none 0 0)).cell? ⟨w.heap.size, 0, none⟩ = some (.int .i64 0) := by simp [go_sem, d0]
    have z1 : ((w2.setCell ⟨w.heap.size, 0, none⟩ (.int .i64 0)).setCell ⟨w.heap.size, 1, none⟩ (.slice none 0 0)).cell? ⟨w.heap.size, 1, none⟩ = some (.slice none 0 0) := by simp [go_sem, d1]
    have HZ : Hid (((w2.setCell ⟨w.heap.size, 0, none⟩ (.int .i64 0)).setCell ⟨w.heap.size, 1, none⟩ (.slice none 0 0)).cell? ⟨w.heap.size, 0, none⟩ = some (.int .i64 0) ∧ ((w2.setCell ⟨w.heap.size, 0, none⟩ (.int .i64 0)).setCell ⟨w.heap.size, 1, none⟩ (.slice none 0 0)).cell? ⟨w.heap.size, 1, none⟩ = some (.slice none 0 0)) := ⟨z0, z1⟩
    clear hp hv hw z0 z1
    go_wp2_with fail
    obtain ⟨z0, z1⟩ := HZ.out
    have B4 : Below w.heap.size w ((w2.setCell ⟨w.heap.size, 0, none⟩ (.int .i64 0)).setCell ⟨w.heap.size, 1, none⟩ (.slice none 0 0)) := (B2.setCell (Nat.le_refl _) _).setCell (Nat.le_refl _) _
    generalize (w2.setCell ⟨w.heap.size, 0, none⟩ (.int .i64 0)).setCell ⟨w.heap.size, 1, none⟩ (.slice none 0 0) = W4 at *
    have y0 := cell_on ((Below.refl W4.heap.size W4).alloc (Nat.le_refl _) (.cells #[.int .i64 x0, .slice a0 n0 c0, .int .i64 x1, .slice a1 n1 c1, .int .i64 x2, .slice a2 n2 c2, .int .i64 x3, .slice a3 n3 c3, .int .i64 0, .int .i64 0] 190)) (block_lt_of_cell z0) z0
    have y1 := cell_on ((Below.refl W4.heap.size W4).alloc (Nat.le_refl _) (.cells #[.int .i64 x0, .slice a0 n0 c0, .int .i64 x1, .slice a1 n1 c1, .int .i64 x2, .slice a2 n2 c2, .int .i64 x3, .slice a3 n3 c3, .int .i64 0, .int .i64 0] 190)) (block_lt_of_cell z0) z1
    exact bodyPost_ret (v := .tuple #[.agg #[.int .i64 0, .slice none 0 0], .bool false]) (by simp [results, Tryz.results194, go_sem, y0, y1]) rfl ⟨⟨0, none, 0, [], false, rfl, isL_no HN.out, Nat.le_refl _, .inl rfl⟩, B4.alloc B4.size _⟩

end Go.Proofs.YtpfhegengmlkmacGreatDoor
/- Walks: WindowPut of both. -/
namespace Go.Proofs.YtpfhegengmlkmacGreatDoor
open Go.RowKit Go.BigFrame
set_option maxRecDepth 100000

/-- A window with an item behind the others. -/
def putL (l : List ItemL) (it : ItemL) : List ItemL := if l.length < 4 then l ++ [it] else l.tail ++ [it]
/-- May the item come behind the last one? -/
def TakeP (l : List ItemL) (m : List (ByteArray × Int)) : Prop := ∀ h : 0 < l.length, AboveP (l[l.length - 1]'(by omega)).2 m
/-- What WindowPut answers. -/
def IsP (l : List ItemL) (x : Int) (m : List (ByteArray × Int)) (r : List ItemL) (c : Int) : Prop :=
  (¬ (WinP l ∧ StampP m ∧ m ≠ []) → r = [] ∧ c = 1) ∧ (WinP l ∧ StampP m ∧ m ≠ [] → ¬ TakeP l m → r = l ∧ c = 2) ∧ (WinP l ∧ StampP m ∧ m ≠ [] → TakeP l m → r = putL l (x, m) ∧ c = 0)
theorem IsP.one {l : List ItemL} {x : Int} {m : List (ByteArray × Int)} {r r' : List ItemL} {c c' : Int} (h : IsP l x m r c) (h' : IsP l x m r' c') : r = r' ∧ c = c' := by
  by_cases hp : WinP l ∧ StampP m ∧ m ≠ []
  · by_cases ht : TakeP l m
    · exact ⟨(h.2.2 hp ht).1.trans (h'.2.2 hp ht).1.symm, (h.2.2 hp ht).2.trans (h'.2.2 hp ht).2.symm⟩
    · exact ⟨(h.2.1 hp ht).1.trans (h'.2.1 hp ht).1.symm, (h.2.1 hp ht).2.trans (h'.2.1 hp ht).2.symm⟩
  · exact ⟨(h.1 hp).1.trans (h'.1 hp).1.symm, (h.1 hp).2.trans (h'.1 hp).2.symm⟩
theorem isP_bad {l : List ItemL} {x : Int} {m : List (ByteArray × Int)} (h : ¬ (WinP l ∧ StampP m ∧ m ≠ [])) : IsP l x m [] 1 := ⟨fun _ => ⟨rfl, rfl⟩, fun q => absurd q h, fun q => absurd q h⟩
theorem isP_old {l : List ItemL} {x : Int} {m : List (ByteArray × Int)} (h : WinP l ∧ StampP m ∧ m ≠ []) (ht : ¬ TakeP l m) : IsP l x m l 2 := ⟨fun q => absurd h q, fun _ _ => ⟨rfl, rfl⟩, fun _ q => absurd q ht⟩
theorem isP_taken {l : List ItemL} {x : Int} {m : List (ByteArray × Int)} (h : WinP l ∧ StampP m ∧ m ≠ []) (ht : TakeP l m) : IsP l x m (putL l (x, m)) 0 := ⟨fun q => absurd h q, fun _ q => absurd ht q, fun _ _ => ⟨rfl, rfl⟩⟩
theorem putL_room {l : List ItemL} {it : ItemL} (h : l.length < 4) : putL l it = l ++ [it] := if_pos h
theorem putL_full {l : List ItemL} {it : ItemL} (h : ¬ l.length < 4) : putL l it = l.tail ++ [it] := if_neg h

theorem stamps_put {l : List ItemL} {x : Int} {m : List (ByteArray × Int)} (h : ∀ k, (h : k < l.length) → StampP l[k].2) (hm : StampP m) : ∀ k, (hk : k < (l ++ [(x, m)]).length) → StampP (l ++ [(x, m)])[k].2 := fun k hk => by
  by_cases e : k < l.length
  · rw [List.getElem_append_left e]; exact h k e
  · rw [List.getElem_append_right (by omega)]
    simp only [List.getElem_singleton]
    exact hm
theorem stamps_tail {l : List ItemL} (h : ∀ k, (h : k < l.length) → StampP l[k].2) : ∀ k, (hk : k < l.tail.length) → StampP l.tail[k].2 := fun k hk => by
  rw [List.getElem_tail]
  exact h _ _

theorem GathI.slice {w : World} {B : Nat} {v : Value} {l : List ItemL} (h : GathI w B v l) : ∃ a n cap, v = .slice a n cap := by
  obtain ⟨a, cap, rfl, _⟩ := h.len
  exact ⟨_, _, _, rfl⟩

theorem rowI_tail {w : World} {b o : Nat} {l : List ItemL} {it : ItemL} (h : RowI w (some ⟨b, o, none⟩) (l ++ [it])) (h0 : 0 < l.length) : RowI w (some ⟨b, o + 2, none⟩) (l.tail ++ [it]) := fun k hk => by
  cases l with
  | nil => simp at h0
  | cons y t =>
    obtain ⟨b', o', ha, hlt, c0, v, c1, hv⟩ := h (k + 1) (by simpa using hk)
    obtain ⟨rfl, rfl⟩ : b = b' ∧ o = o' := by simpa using ha
    have e : o + (k + 1) * 2 = o + 2 + k * 2 := by omega
    rw [e] at c0 c1
    exact ⟨b, _, rfl, hlt, by simpa using c0, v, by simpa using c1, by simpa using hv⟩
theorem small_tail {l : List ItemL} {x : Int} {m : List (ByteArray × Int)} (h : Small1 l) (hm : m.length ≤ 1048576) (h4 : l.length = 4) : Small1 (l.tail ++ [(x, m)]) := ⟨by simp; omega, fun j hj => by
  by_cases e : j < l.tail.length
  · rw [List.getElem_append_left e, List.getElem_tail]; exact h.2 _ _
  · rw [List.getElem_append_right (by omega)]
    simp only [List.getElem_singleton]
    exact hm⟩

/-- How WindowPut ends: items in new memory, and the code. -/
def PutE (w' : World) (B : Nat) (l : List ItemL) (x : Int) (m : List (ByteArray × Int)) (e : Ending) : Prop := ∃ v r c, e = .returned (.tuple #[v, .int .i64 c]) ∧ IsP l x m r c ∧ GathI w' B v r

set_option maxHeartbeats 3200000 in
theorem implPut_any (a : Option Addr) (cap : Nat) (l : List ItemL) (x : Int) (am : Option Addr) (cm : Nat) (m : List (ByteArray × Int)) (w : World) (hf : FitI l) (hr : RowI w a l) (hfm : FitM m) (hcm : m.length ≤ cm) (hrm : Row w am m) :
    Calls Tryz.prog 90 #[.slice a l.length cap, .agg #[.int .i64 x, .slice am m.length cm]] w fun e w' => PutE w' w.heap.size l x m e ∧ Below w.heap.size w w' := by
  have hl := hf.1
  unfold maxLen at hl
  have hb0 : Below w.heap.size w (w.alloc (.cells #[.int .i64 x, .slice am m.length cm] 44)) := (Below.refl _ _).alloc (Nat.le_refl _) _
  have d0 := box0 w (.int .i64 x) (.slice am m.length cm) 44
  have d1 := box1 w (.int .i64 x) (.slice am m.length cm) 44
  have hlt := box_lt w (.cells #[.int .i64 x, .slice am m.length cm] 44)
  go_enter Tryz.func90, Tryz.ntmps90
  go_wp2_with fail
  generalize w.alloc (.cells #[.int .i64 x, .slice am m.length cm] 44) = W1 at *
  refine (readWindow_any a cap l _ hf (hr.below hb0)).mono ?_
  rintro e w2 ⟨hE, b2⟩
  have B2 : Below w.heap.size w w2 := hb0.trans (b2.mono hb0.size)
  have BW : Below W1.heap.size W1 w2 := b2
  have hzW := BW.size
  have hrm1 := hrm.below hb0
  have hz1 := hb0.size
  replace d0 := cell_on b2 hlt d0
  replace d1 := cell_on b2 hlt d1
  have hlt2 : w.heap.size < w2.heap.size := Nat.lt_of_lt_of_le hlt b2.size
  clear hb0 b2 hrm
  rcases hE with ⟨v, rfl, hp, hv⟩ | ⟨v, rfl, hp, hv⟩
  · have HP : Hid (WinP l) := hp
    clear hp
    obtain ⟨x0, x1, x2, x3, a0, a1, a2, a3, n0, n1, n2, n3, c0, c1, c2, c3, rfl, hw⟩ := hv.laid
    have hW := hw w2 BW.size
    have hbx : Below w2.heap.size w2 (w2.alloc (.cells #[.int .i64 x0, .slice a0 n0 c0, .int .i64 x1, .slice a1 n1 c1, .int .i64 x2, .slice a2 n2 c2, .int .i64 x3, .slice a3 n3 c3, .int .i64 0, .int .i64 l.length] 190)) := (Below.refl _ _).alloc (Nat.le_refl _) _
    have B3 := B2.trans (hbx.mono B2.size)
    have BW3 := BW.trans (hbx.mono BW.size)
    have D0 : Hid _ := cell_on hbx hlt2 d0
    have D1 : Hid _ := cell_on hbx hlt2 d1
    have hlt3 : w.heap.size < (w2.alloc (.cells #[.int .i64 x0, .slice a0 n0 c0, .int .i64 x1, .slice a1 n1 c1, .int .i64 x2, .slice a2 n2 c2, .int .i64 x3, .slice a3 n3 c3, .int .i64 0, .int .i64 l.length] 190)).heap.size := Nat.lt_of_lt_of_le hlt2 hbx.size
    clear hw hv hbx
    go_wp2_with fail
    have e0 := D0.out
    have e1 := D1.out
    clear D0 D1 d0 d1
    generalize w2.alloc (.cells #[.int .i64 x0, .slice a0 n0 c0, .int .i64 x1, .slice a1 n1 c1, .int .i64 x2, .slice a2 n2 c2, .int .i64 x3, .slice a3 n3 c3, .int .i64 0, .int .i64 l.length] 190) = W3 at *
    clear B2 BW
    refine (itemOk_any x am cm m _ (hrm1.below BW3) hfm).mono ?_
    rintro e w4 ⟨⟨r, rfl, hr4⟩, b4⟩
    have HR4 : Hid (r = true ↔ StampP m ∧ m ≠ []) := hr4
    have B4 : Below w.heap.size w w4 := B3.trans (b4.mono B3.size)
    have BW4 : Below W1.heap.size W1 w4 := BW3.trans (b4.mono BW3.size)
    replace e0 := cell_on b4 hlt3 e0
    replace e1 := cell_on b4 hlt3 e1
    replace hW := hW.below b4
    have hlt4 : w.heap.size < w4.heap.size := Nat.lt_of_lt_of_le hlt3 b4.size
    clear hr4 b4 B3 BW3
    cases r
    · have HN : Hid (¬ (WinP l ∧ StampP m ∧ m ≠ [])) := fun h => by simpa using HR4.out.2 h.2
      clear HR4
      go_wp2_with fail
      exact bodyPost_ret (v := .tuple #[.slice none 0 0, .int .i64 1]) (by simp [results, Tryz.results90, go_sem]) rfl ⟨⟨_, [], 1, rfl, isP_bad HN.out, gathI_none _ _⟩, B4⟩
    · have HM : Hid (WinP l ∧ StampP m ∧ m ≠ []) := ⟨HP.out, HR4.out.1 rfl⟩
      have HSL : Hid (∀ k, (h : k < l.length) → StampP l[k].2) := fun k h => (HP.out.2.1 k h).1
      clear HR4
      go_wp2_with fail
      refine (takes_any W1 w4 _ 0 l x _ m hW BW4 HSL.out ⟨am, cm, rfl, hcm, hrm1⟩ HM.out.2.1).mono ?_
      rintro e w5 ⟨⟨r, rfl, hr5⟩, b5⟩
      have HR5 : Hid (r = true ↔ TakeP l m) := hr5
      have B5 : Below w.heap.size w w5 := B4.trans (b5.mono B4.size)
      have BW5 : Below W1.heap.size W1 w5 := BW4.trans (b5.mono BW4.size)
      replace e0 := cell_on b5 hlt4 e0
      replace e1 := cell_on b5 hlt4 e1
      replace hW := hW.below b5
      have hz5 := B5.size
      clear hr5 b5 B4 BW4
      cases r
      · have HN : Hid (¬ TakeP l m) := fun h => by simpa using HR5.out.2 h
        clear HR5
        go_wp2_with fail
        refine (items_any W1 w5 _ 0 l hW BW5 HSL.out).mono ?_
        rintro e w6 ⟨⟨v, rfl, hg⟩, b6⟩
        have B6 : Below w.heap.size w w6 := B5.trans (b6.mono B5.size)
        obtain ⟨ag, cg, rfl, _⟩ := hg.len
        have HG : Hid (GathI w6 w5.heap.size (.slice ag l.length cg) l) := hg
        clear hg b6 B5 e0 e1 hW
        go_wp2_with fail
        exact bodyPost_ret (v := .tuple #[.slice ag l.length cg, .int .i64 2]) (by simp [results, Tryz.results90, go_sem]) rfl ⟨⟨_, l, 2, rfl, isP_old HM.out HN.out, HG.out.lower hz5⟩, B6⟩
      · have HT : Hid (TakeP l m) := HR5.out.1 (by trivial)
        clear HR5
        by_cases h4 : l.length < 4
        · have HPL : Hid (putL l (x, m) = l ++ [(x, m)]) := putL_room h4
          have HS6 : Hid (∀ k, (h : k < (l ++ [(x, m)]).length) → StampP (l ++ [(x, m)])[k].2) := stamps_put HSL.out HM.out.2.1
          go_wp2_with fail
          refine (push_room W1 w5 _ 0 l x _ m hW ⟨am, cm, rfl, hcm, hrm1⟩ h4).mono ?_
          rintro e w6 ⟨rfl, hW6, b6⟩
          have B6 : Below w.heap.size w w6 := B5.trans (b6.below (by omega) hz5)
          have BW6 : Below W1.heap.size W1 w6 := BW5.trans (b6.below (by omega) BW5.size)
          have hz6 := B6.size
          clear b6 B5 BW5 e0 e1 hW
          go_wp2_with fail
          refine (items_any W1 w6 _ 0 (l ++ [(x, m)]) hW6 BW6 HS6.out).mono ?_
          rintro e w7 ⟨⟨v, rfl, hg⟩, b7⟩
          have B7 : Below w.heap.size w w7 := B6.trans (b7.mono B6.size)
          obtain ⟨ag, q, cg, rfl⟩ := hg.slice
          have HG : Hid (GathI w7 w6.heap.size (.slice ag q cg) (l ++ [(x, m)])) := hg
          clear hg b7 B6 hW6
          go_wp2_with fail
          exact bodyPost_ret (v := .tuple #[.slice ag q cg, .int .i64 0]) (by simp [results, Tryz.results90, go_sem]) rfl ⟨⟨_, l ++ [(x, m)], 0, rfl, by rw [← HPL.out]; exact isP_taken HM.out HT.out, HG.out.lower hz6⟩, B7⟩
        · have HPL : Hid (putL l (x, m) = l.tail ++ [(x, m)]) := putL_full h4
          have HS6 : Hid (∀ k, (h : k < (l.tail ++ [(x, m)]).length) → StampP (l.tail ++ [(x, m)])[k].2) := stamps_put (stamps_tail HSL.out) HM.out.2.1
          go_wp2_with fail
          refine (push_full W1 w5 _ 0 l x _ m hW ⟨am, cm, rfl, hcm, hrm1⟩ (by have := HP.out.1; omega)).mono ?_
          rintro e w6 ⟨rfl, hW6, b6⟩
          have B6 : Below w.heap.size w w6 := B5.trans (b6.below (by omega) hz5)
          have BW6 : Below W1.heap.size W1 w6 := BW5.trans (b6.below (by omega) BW5.size)
          have hz6 := B6.size
          clear b6 B5 BW5 e0 e1 hW
          go_wp2_with fail
          refine (items_any W1 w6 _ ((0 + 1) % 4) (l.tail ++ [(x, m)]) hW6 BW6 HS6.out).mono ?_
          rintro e w7 ⟨⟨v, rfl, hg⟩, b7⟩
          have B7 : Below w.heap.size w w7 := B6.trans (b7.mono B6.size)
          obtain ⟨ag, q, cg, rfl⟩ := hg.slice
          have HG : Hid (GathI w7 w6.heap.size (.slice ag q cg) (l.tail ++ [(x, m)])) := hg
          clear hg b7 B6 hW6
          go_wp2_with fail
          exact bodyPost_ret (v := .tuple #[.slice ag q cg, .int .i64 0]) (by simp [results, Tryz.results90, go_sem]) rfl ⟨⟨_, l.tail ++ [(x, m)], 0, rfl, by rw [← HPL.out]; exact isP_taken HM.out HT.out, HG.out.lower hz6⟩, B7⟩
  · have HN : Hid (¬ (WinP l ∧ StampP m ∧ m ≠ [])) := fun h => hp h.1
    obtain ⟨x0, x1, x2, x3, a0, a1, a2, a3, n0, n1, n2, n3, c0, c1, c2, c3, rfl, hw⟩ := hv.laid
    clear hp hv hw
    go_wp2_with fail
    exact bodyPost_ret (v := .tuple #[.slice none 0 0, .int .i64 1]) (by simp [results, Tryz.results90, go_sem]) rfl ⟨⟨_, [], 1, rfl, isP_bad HN.out, gathI_none _ _⟩, B2.alloc B2.size _⟩

set_option maxHeartbeats 3200000 in
theorem specPut_any (a : Option Addr) (cap : Nat) (l : List ItemL) (x : Int) (am : Option Addr) (cm : Nat) (m : List (ByteArray × Int)) (w : World) (hf : FitI l) (hr : RowI w a l) (hfm : FitM m) (hrm : Row w am m) :
    Calls Tryz.prog 42 #[.slice a l.length cap, .agg #[.int .i64 x, .slice am m.length cm]] w fun e w' => PutE w' w.heap.size l x m e ∧ Below w.heap.size w w' := by
  have hl := hf.1
  unfold maxLen at hl
  have hb0 : Below w.heap.size w (w.alloc (.cells #[.int .i64 x, .slice am m.length cm] 44)) := (Below.refl _ _).alloc (Nat.le_refl _) _
  have d0 := box0 w (.int .i64 x) (.slice am m.length cm) 44
  have d1 := box1 w (.int .i64 x) (.slice am m.length cm) 44
  have hlt := box_lt w (.cells #[.int .i64 x, .slice am m.length cm] 44)
  go_enter Tryz.func42, Tryz.ntmps42
  go_wp2_with fail
  generalize w.alloc (.cells #[.int .i64 x, .slice am m.length cm] 44) = W1 at *
  refine (specWinOk_any a cap l _ hf (hr.below hb0)).mono ?_
  rintro e w2 ⟨⟨r, rfl, hr2⟩, b2⟩
  have HR2 : Hid (r = true ↔ WinP l) := hr2
  have B2 : Below w.heap.size w w2 := hb0.trans (b2.mono hb0.size)
  replace d0 := cell_on b2 hlt d0
  replace d1 := cell_on b2 hlt d1
  have hlt2 : w.heap.size < w2.heap.size := Nat.lt_of_lt_of_le hlt b2.size
  clear hb0 b2 hr2 hlt
  cases r
  · have HN : Hid (¬ (WinP l ∧ StampP m ∧ m ≠ [])) := fun h => by simpa using HR2.out.2 h.1
    clear HR2
    go_wp2_with fail
    exact bodyPost_ret (v := .tuple #[.slice none 0 0, .int .i64 1]) (by simp [results, Tryz.results42, go_sem]) rfl ⟨⟨_, [], 1, rfl, isP_bad HN.out, gathI_none _ _⟩, B2⟩
  have HP : Hid (WinP l) := HR2.out.1 rfl
  clear HR2
  go_wp2_with fail
  refine (specOk_b am cm m _ hfm.1 (hrm.below B2) hfm.2).mono ?_
  rintro e w3 ⟨⟨r, rfl, hr3⟩, b3⟩
  have HR3 : Hid (r = true ↔ StampP m) := hr3
  have B3 : Below w.heap.size w w3 := B2.trans (b3.mono B2.size)
  replace d0 := cell_on b3 hlt2 d0
  replace d1 := cell_on b3 hlt2 d1
  have hlt3 : w.heap.size < w3.heap.size := Nat.lt_of_lt_of_le hlt2 b3.size
  clear b3 hr3 hlt2 B2
  cases r
  · have HN : Hid (¬ (WinP l ∧ StampP m ∧ m ≠ [])) := fun h => by simpa using HR3.out.2 h.2.1
    clear HR3
    go_wp2_with fail
    exact bodyPost_ret (v := .tuple #[.slice none 0 0, .int .i64 1]) (by simp [results, Tryz.results42, go_sem]) rfl ⟨⟨_, [], 1, rfl, isP_bad HN.out, gathI_none _ _⟩, B3⟩
  have HSM : Hid (StampP m) := HR3.out.1 rfl
  clear HR3
  by_cases hz : m.length = 0
  · have hz' : ((m.length : Int) == 0) = true := by rw [beq_iff_eq]; omega
    have HN : Hid (¬ (WinP l ∧ StampP m ∧ m ≠ [])) := fun h => h.2.2 (List.length_eq_zero_iff.1 hz)
    clear hz
    go_wp2_with fail
    exact bodyPost_ret (v := .tuple #[.slice none 0 0, .int .i64 1]) (by simp [results, Tryz.results42, go_sem]) rfl ⟨⟨_, [], 1, rfl, isP_bad HN.out, gathI_none _ _⟩, B3⟩
  have hz' : ((m.length : Int) == 0) = false := by rw [beq_eq_false_iff_ne]; omega
  have HM : Hid (WinP l ∧ StampP m ∧ m ≠ []) := ⟨HP.out, HSM.out, fun e => hz (by rw [e]; rfl)⟩
  clear hz HSM
  go_wp2_with fail
  refine (l2Items_any a cap l _ (win_small HP.out) (hr.below B3)).mono ?_
  rintro e w4 ⟨⟨v, rfl, hg⟩, b4⟩
  have B4 : Below w.heap.size w w4 := B3.trans (b4.mono B3.size)
  replace d0 := cell_on b4 hlt3 d0
  replace d1 := cell_on b4 hlt3 d1
  have hlt4 : w.heap.size < w4.heap.size := Nat.lt_of_lt_of_le hlt3 b4.size
  have hz3 := B3.size
  have hz4 := b4.size
  obtain ⟨ag, cg, rfl, hcg⟩ := hg.len
  clear b4 B3
  by_cases h0 : 0 < l.length
  · obtain ⟨b, o, rfl, hblt, f0, v, f1, ⟨s2, t2, rfl, _, r2⟩⟩ := hr (l.length - 1) (by omega)
    have fk := hf.2 (l.length - 1) (by omega)
    have k3 : (0 : Int) ≤ (l.length : Int) - 1 := by omega
    have hkm : ((l.length : Int) - 1) = ((l.length - 1 : Nat) : Int) := by omega
    obtain ⟨q, hq⟩ : ∃ q : Bool, q = true ↔ AboveP (l[l.length - 1]'(by omega)).2 m := boolOf _
    have HQ : Hid (q = true ↔ TakeP l m) := ⟨fun h _ => hq.1 h, fun h => hq.2 (h h0)⟩
    have HQ' : Hid (q = true ↔ AboveP (l[l.length - 1]'(by omega)).2 m) := hq
    have g0 := cell_on B4 hblt f0
    have g1 := cell_on B4 hblt f1
    have hb4 : b < w4.heap.size := Nat.lt_of_lt_of_le hblt B4.size
    have hne := Lat.some w4
    have r4 := r2.below B4
    have rm4 := hrm.below B4
    have ce : ∀ n : Lat w4, Calls Tryz.prog 82 #[.agg #[.int .i64 (l[l.length - 1]'(by omega)).1, .slice s2 (l[l.length - 1]'(by omega)).2.length t2], .agg #[.int .i64 x, .slice am m.length cm]] n.w fun e w'' => e = .returned (.bool q) ∧ Below n.w.heap.size n.w w'' := fun n =>
      (l2Above_any _ _ s2 am t2 cm _ _ n.w fk hfm (r4.below n.h) (rm4.below n.h)).mono fun _ _ ⟨⟨q', he, hq'⟩, hb'⟩ => ⟨by rw [he, show q' = q by rw [Bool.eq_iff_iff, hq', HQ'.out]], hb'⟩
    have q0 : ∀ n : Lat w4, n.w.cell? ⟨b, o + (l.length - 1) * 2, none⟩ = some (.int .i64 (l[l.length - 1]'(by omega)).1) := fun n => n.cell hb4 g0
    have q1 : ∀ n : Lat w4, n.w.cell? ⟨b, o + (l.length - 1) * 2 + 1, none⟩ = some (.slice s2 (l[l.length - 1]'(by omega)).2.length t2) := fun n => n.cell hb4 g1
    have q2 : ∀ n : Lat w4, n.w.cell? ⟨w.heap.size, 0, none⟩ = some (.int .i64 x) := fun n => n.cell hlt4 d0
    have q3 : ∀ n : Lat w4, n.w.cell? ⟨w.heap.size, 1, none⟩ = some (.slice am m.length cm) := fun n => n.cell hlt4 d1
    clear hq f0 f1
    go_wp2_with fail
    refine wp_region_lat (by kernel_rfl) (by kernel_rfl) ?_
    repeat (go_big_quiet_step ((go_at_call 82; exact Calls.lat_of (ce _))))
    refine wpQuiet_nil ?_
    rintro _ ⟨nq, rfl⟩
    have B5 : Below w.heap.size w nq.w := B4.trans (nq.h.mono B4.size)
    have hg5 := hg.keep nq.h
    have hz45 := nq.h.size
    have e0 := q2 nq
    have e1 := q3 nq
    clear ce q0 q1 q2 q3 hg g0 g1 HQ' r4 rm4
    cases q
    · have HN : Hid (¬ TakeP l m) := fun h => by simpa using HQ.out.2 h
      have HG : Hid (GathI nq.w w3.heap.size (.slice ag l.length cg) l) := hg5
      clear HQ hg5
      go_wp2_with fail
      exact bodyPost_ret (v := .tuple #[.slice ag l.length cg, .int .i64 2]) (by simp [results, Tryz.results42, go_sem]) rfl ⟨⟨_, l, 2, rfl, isP_old HM.out HN.out, HG.out.lower hz3⟩, B5⟩
    · have HT : Hid (TakeP l m) := HQ.out.1 rfl
      clear HQ
      go_wp2_with fail
      have SW : ((nq.w).drew).cell? ⟨w.heap.size, 0, none⟩ = some (.int .i64 x) ∧ ((nq.w).drew).cell? ⟨w.heap.size, 1, none⟩ = some (.slice am m.length cm) := ⟨e0, e1⟩
      have hz5 := B5.size
      have rm5 := hrm.below B5
      have hbd : Below (nq.w).heap.size (nq.w) (nq.w).drew := (Below.refl _ _).drew
      have hm12 : m.length ≤ 1048576 := by have := HM.out.2.1.1; omega
      have hll : l.length ≤ 1048576 := by have := HP.out.1; omega
      refine wp_region_held_drew (S := fun u => u.cell? ⟨w.heap.size, 0, none⟩ = some (.int .i64 x) ∧ u.cell? ⟨w.heap.size, 1, none⟩ = some (.slice am m.length cm)) (by kernel_rfl) SW (fun _ => ?_)
      refine wpAnyH_take (i := 0) (v := .slice ag l.length cg) rfl (by kernel_rfl) (by kernel_rfl) (by kernel_rfl) (fun _ _ _ h => h) (Or.inl ⟨by rfl, ?_⟩) SW ?_
      · rintro u ⟨q1, q2⟩
        go_simp
      simp only [Act.put, List.setIfInBounds_toArray]
      refine wpAnyH_take (i := 1) (v := .pointer (some ⟨w.heap.size, 0, none⟩)) rfl (by kernel_rfl) (by kernel_rfl) (by kernel_rfl) (fun _ _ _ h => h) (Or.inl ⟨by rfl, ?_⟩) SW ?_
      · rintro u ⟨q1, q2⟩
        go_simp
      simp only [Act.put]
      refine wpAnyH_take (i := 2) (v := .int .i64 x) rfl (by kernel_rfl) (by kernel_rfl) (by kernel_rfl) (fun _ _ _ h => h) (Or.inl ⟨by rfl, ?_⟩) SW ?_
      · rintro u ⟨q1, q2⟩
        go_simp
      simp only [Act.put]
      refine wpAnyH_take (i := 3) (v := .pointer (some ⟨w.heap.size, 1, none⟩)) rfl (by kernel_rfl) (by kernel_rfl) (by kernel_rfl) (fun _ _ _ h => h) (Or.inl ⟨by rfl, ?_⟩) SW ?_
      · rintro u ⟨q1, q2⟩
        go_simp
      simp only [Act.put]
      refine wpAnyH_take (i := 4) (v := .slice am m.length cm) rfl (by kernel_rfl) (by kernel_rfl) (by kernel_rfl) (fun _ _ _ h => h) (Or.inl ⟨by rfl, ?_⟩) SW ?_
      · rintro u ⟨q1, q2⟩
        go_simp
      simp only [Act.put]
      refine wpAnyH_ready (rs := [5]) (by kernel_rfl) (by simp) ?_
      refine AllReadyH.cons rfl (fun K hK => ?_) AllReadyH.nil
      rw [if_pos (by rfl)]
      go_simp
      refine (l2Marks_any am cm m _ (rm5.below hbd) hm12).mono ?_
      rintro e w6 ⟨⟨gm, cq, rfl, hgm, hcm, ho⟩, b6⟩
      have b6' : Below (nq.w).heap.size (nq.w) w6 := hbd.trans (b6.mono hbd.size)
      have B6 : Below w.heap.size w w6 := B5.trans (b6'.mono hz5)
      have hgm' : (nq.w).heap.size ≤ gm := hgm
      have hw5 : w.heap.size < (nq.w).heap.size := block_lt_of_cell e0
      have S2 : w6.cell? ⟨w.heap.size, 0, none⟩ = some (.int .i64 x) ∧ w6.cell? ⟨w.heap.size, 1, none⟩ = some (.slice am m.length cm) := ⟨cell_on b6' hw5 e0, cell_on b6' hw5 e1⟩
      refine hK.out _ _ S2 (fun _ => ?_)
      clear hK K b6 SW hbd
      refine wpAnyH_take (i := 6) (v := .agg #[.int .i64 x, .slice (some ⟨gm, 0, none⟩) m.length cq]) rfl (by kernel_rfl) (by kernel_rfl) (by kernel_rfl) (fun _ _ _ h => h) (Or.inl ⟨by rfl, ?_⟩) S2 ?_
      · rintro u ⟨q1, q2⟩
        go_simp
      simp only [Act.put, List.setIfInBounds_toArray]
      refine wpAnyH_ready (rs := [7]) (by kernel_rfl) (by simp) ?_
      refine AllReadyH.cons rfl (fun K hK => ?_) AllReadyH.nil
      rw [if_pos (by rfl)]
      go_simp
      have b7 : Below (nq.w).heap.size (nq.w) (w6.alloc (.cells #[.int .i64 x, .slice (some ⟨gm, 0, none⟩) m.length cq] 44)) := b6'.alloc b6'.size _
      have S3 : (w6.alloc (.cells #[.int .i64 x, .slice (some ⟨gm, 0, none⟩) m.length cq] 44)).cell? ⟨w.heap.size, 0, none⟩ = some (.int .i64 x) ∧ (w6.alloc (.cells #[.int .i64 x, .slice (some ⟨gm, 0, none⟩) m.length cq] 44)).cell? ⟨w.heap.size, 1, none⟩ = some (.slice am m.length cm) := ⟨cell_on b7 hw5 e0, cell_on b7 hw5 e1⟩
      have hbx : Below w6.heap.size w6 (w6.alloc (.cells #[.int .i64 x, .slice (some ⟨gm, 0, none⟩) m.length cq] 44)) := (Below.refl _ _).alloc (Nat.le_refl _) _
      have B7 : Below w.heap.size w (w6.alloc (.cells #[.int .i64 x, .slice (some ⟨gm, 0, none⟩) m.length cq] 44)) := B6.trans (hbx.mono B6.size)
      refine hK.out _ _ S3 (fun _ => ?_)
      clear hK K
      refine wpAnyH_ready (rs := [8]) (by kernel_rfl) (by simp) ?_
      refine AllReadyH.cons rfl (fun K hK => ?_) AllReadyH.nil
      rw [if_pos (by rfl)]
      refine wp_append_item _ _ rfl (nq.w) w3.heap.size _ l rfl hg5 b7 (by omega) w6.heap.size x m gm cq rfl (box0 _ _ _ _) (box1 _ _ _ _) (ho.below hbx) hgm' hcm hll ?_
      intro v' w8 hg8 b8
      have B8 : Below w.heap.size w w8 := B7.trans (b8.mono hz3)
      have S4 : w8.cell? ⟨w.heap.size, 0, none⟩ = some (.int .i64 x) ∧ w8.cell? ⟨w.heap.size, 1, none⟩ = some (.slice am m.length cm) := ⟨(b8.cell (p := ⟨w.heap.size, 0, none⟩) hlt3).trans S3.1, (b8.cell (p := ⟨w.heap.size, 1, none⟩) hlt3).trans S3.2⟩
      refine hK.out _ _ S4 (fun _ => ?_)
      clear hK K
      refine wpAnyH_ready (rs := [9]) (by kernel_rfl) (by simp) ?_
      refine AllReadyH.cons rfl (fun K hK => ?_) AllReadyH.nil
      rw [if_pos (by rfl)]
      go_simp
      refine hK.out _ _ S4 (fun _ => ?_)
      clear hK K
      refine wpAnyH_done (by kernel_rfl) ?_ _
      obtain ⟨a8, c8, rfl, hc8⟩ := hg8.len
      clear S2 S3 S4 b6' b7 b8 hbx B6 B7 ho e0 e1 hg5 rm5
      have hlen : (l ++ [(x, m)]).length = l.length + 1 := by simp
      rw [hlen] at hg8
      rw [hlen]
      have hcl : (((l.length + 1 : Nat) : Int)) = (l.length : Int) + 1 := by omega
      by_cases h4 : l.length < 4
      · have HPL : Hid (putL l (x, m) = l ++ [(x, m)]) := putL_room h4
        have HG : Hid (GathI w8 w3.heap.size (.slice a8 (l.length + 1) c8) (l ++ [(x, m)])) := hg8
        clear hg8 hlen hc8
        go_wp2_with fail
        exact bodyPost_ret (v := .tuple #[.slice a8 (l.length + 1) c8, .int .i64 0]) (by simp [results, Tryz.results42, go_sem]) rfl ⟨⟨_, l ++ [(x, m)], 0, rfl, by rw [← HPL.out]; exact isP_taken HM.out HT.out, HG.out.lower hz3⟩, B8⟩
      · have HPL : Hid (putL l (x, m) = l.tail ++ [(x, m)]) := putL_full h4
        have h4' : l.length = 4 := by have := HP.out.1; omega
        obtain ⟨ga, gc, hge, _, hsa⟩ := hg8.safe
        obtain ⟨rfl, rfl⟩ : a8 = ga ∧ c8 = gc := by
          rw [hlen] at hge
          simpa using hge
        obtain ⟨g8, rfl⟩ : ∃ g8, a8 = some ⟨g8, 0, none⟩ := by
          rcases hsa with hs | ⟨g, hg, _⟩
          · simp at hs
          · exact ⟨g, hg⟩
        have hrt := rowI_tail (l := l) hsa.row (by omega)
        have hsm : Small1 (l.tail ++ [(x, m)]) := small_tail (win_small HP.out) hm12 h4'
        have hlt' : (l.tail ++ [(x, m)]).length = 4 := by simp; omega
        rw [hlen] at hc8
        clear hg8 hlen hsa hge
        go_wp2_with fail
        have hcall := l2Items_any (some ⟨g8, 2, none⟩) (c8 - 1) (l.tail ++ [(x, m)]) w8 hsm hrt
        rw [hlt'] at hcall
        refine hcall.mono ?_
        rintro e w9 ⟨⟨v, rfl, hg9⟩, b9⟩
        have B9 : Below w.heap.size w w9 := B8.trans (b9.mono B8.size)
        have hz8 := B8.size
        obtain ⟨a9, q9, c9, rfl⟩ := hg9.slice
        have HG : Hid (GathI w9 w8.heap.size (.slice a9 q9 c9) (l.tail ++ [(x, m)])) := hg9
        clear hg9 b9 hcall hrt hsm
        go_wp2_with fail
        exact bodyPost_ret (v := .tuple #[.slice a9 q9 c9, .int .i64 0]) (by simp [results, Tryz.results42, go_sem]) rfl ⟨⟨_, l.tail ++ [(x, m)], 0, rfl, by rw [← HPL.out]; exact isP_taken HM.out HT.out, HG.out.lower hz8⟩, B9⟩
  · obtain rfl : l = [] := List.length_eq_zero_iff.1 (by omega)
    have HT : Hid (TakeP [] m) := fun h => absurd h (by simp)
    go_wp2_with fail
    go_quiet (fail)
    go_wp2_with fail
    have b5 : Below w4.heap.size w4 (w4.drewN nq) := below_drewN (Below.refl _ _) _
    have e0 := cell_on b5 hlt4 d0
    have e1 := cell_on b5 hlt4 d1
    replace hg := hg.keep b5
    replace B4 := B4.trans (b5.mono B4.size)
    have hz45 := b5.size
    generalize w4.drewN nq = W5 at *
    clear b5 d0 d1
    have SW : ((W5).drew).cell? ⟨w.heap.size, 0, none⟩ = some (.int .i64 x) ∧ ((W5).drew).cell? ⟨w.heap.size, 1, none⟩ = some (.slice am m.length cm) := ⟨e0, e1⟩
    have hz5 := B4.size
    have rm5 := hrm.below B4
    have hbd : Below (W5).heap.size (W5) (W5).drew := (Below.refl _ _).drew
    have hm12 : m.length ≤ 1048576 := by have := HM.out.2.1.1; omega
    have hll : ([] : List ItemL).length ≤ 1048576 := by simp
    refine wp_region_held_drew (S := fun u => u.cell? ⟨w.heap.size, 0, none⟩ = some (.int .i64 x) ∧ u.cell? ⟨w.heap.size, 1, none⟩ = some (.slice am m.length cm)) (by kernel_rfl) SW (fun _ => ?_)
    refine wpAnyH_take (i := 0) (v := .slice ag 0 cg) rfl (by kernel_rfl) (by kernel_rfl) (by kernel_rfl) (fun _ _ _ h => h) (Or.inl ⟨by rfl, ?_⟩) SW ?_
    · rintro u ⟨q1, q2⟩
      go_simp
    simp only [Act.put, List.setIfInBounds_toArray]
    refine wpAnyH_take (i := 1) (v := .pointer (some ⟨w.heap.size, 0, none⟩)) rfl (by kernel_rfl) (by kernel_rfl) (by kernel_rfl) (fun _ _ _ h => h) (Or.inl ⟨by rfl, ?_⟩) SW ?_
    · rintro u ⟨q1, q2⟩
      go_simp
    simp only [Act.put]
    refine wpAnyH_take (i := 2) (v := .int .i64 x) rfl (by kernel_rfl) (by kernel_rfl) (by kernel_rfl) (fun _ _ _ h => h) (Or.inl ⟨by rfl, ?_⟩) SW ?_
    · rintro u ⟨q1, q2⟩
      go_simp
    simp only [Act.put]
    refine wpAnyH_take (i := 3) (v := .pointer (some ⟨w.heap.size, 1, none⟩)) rfl (by kernel_rfl) (by kernel_rfl) (by kernel_rfl) (fun _ _ _ h => h) (Or.inl ⟨by rfl, ?_⟩) SW ?_
    · rintro u ⟨q1, q2⟩
      go_simp
    simp only [Act.put]
    refine wpAnyH_take (i := 4) (v := .slice am m.length cm) rfl (by kernel_rfl) (by kernel_rfl) (by kernel_rfl) (fun _ _ _ h => h) (Or.inl ⟨by rfl, ?_⟩) SW ?_
    · rintro u ⟨q1, q2⟩
      go_simp
    simp only [Act.put]
    refine wpAnyH_ready (rs := [5]) (by kernel_rfl) (by simp) ?_
    refine AllReadyH.cons rfl (fun K hK => ?_) AllReadyH.nil
    rw [if_pos (by rfl)]
    go_simp
    refine (l2Marks_any am cm m _ (rm5.below hbd) hm12).mono ?_
    rintro e w6 ⟨⟨gm, cq, rfl, hgm, hcm, ho⟩, b6⟩
    have b6' : Below (W5).heap.size (W5) w6 := hbd.trans (b6.mono hbd.size)
    have B6 : Below w.heap.size w w6 := B4.trans (b6'.mono hz5)
    have hgm' : (W5).heap.size ≤ gm := hgm
    have hw5 : w.heap.size < (W5).heap.size := block_lt_of_cell e0
    have S2 : w6.cell? ⟨w.heap.size, 0, none⟩ = some (.int .i64 x) ∧ w6.cell? ⟨w.heap.size, 1, none⟩ = some (.slice am m.length cm) := ⟨cell_on b6' hw5 e0, cell_on b6' hw5 e1⟩
    refine hK.out _ _ S2 (fun _ => ?_)
    clear hK K b6 SW hbd
    refine wpAnyH_take (i := 6) (v := .agg #[.int .i64 x, .slice (some ⟨gm, 0, none⟩) m.length cq]) rfl (by kernel_rfl) (by kernel_rfl) (by kernel_rfl) (fun _ _ _ h => h) (Or.inl ⟨by rfl, ?_⟩) S2 ?_
    · rintro u ⟨q1, q2⟩
      go_simp
    simp only [Act.put, List.setIfInBounds_toArray]
    refine wpAnyH_ready (rs := [7]) (by kernel_rfl) (by simp) ?_
    refine AllReadyH.cons rfl (fun K hK => ?_) AllReadyH.nil
    rw [if_pos (by rfl)]
    go_simp
    have b7 : Below (W5).heap.size (W5) (w6.alloc (.cells #[.int .i64 x, .slice (some ⟨gm, 0, none⟩) m.length cq] 44)) := b6'.alloc b6'.size _
    have S3 : (w6.alloc (.cells #[.int .i64 x, .slice (some ⟨gm, 0, none⟩) m.length cq] 44)).cell? ⟨w.heap.size, 0, none⟩ = some (.int .i64 x) ∧ (w6.alloc (.cells #[.int .i64 x, .slice (some ⟨gm, 0, none⟩) m.length cq] 44)).cell? ⟨w.heap.size, 1, none⟩ = some (.slice am m.length cm) := ⟨cell_on b7 hw5 e0, cell_on b7 hw5 e1⟩
    have hbx : Below w6.heap.size w6 (w6.alloc (.cells #[.int .i64 x, .slice (some ⟨gm, 0, none⟩) m.length cq] 44)) := (Below.refl _ _).alloc (Nat.le_refl _) _
    have B7 : Below w.heap.size w (w6.alloc (.cells #[.int .i64 x, .slice (some ⟨gm, 0, none⟩) m.length cq] 44)) := B6.trans (hbx.mono B6.size)
    refine hK.out _ _ S3 (fun _ => ?_)
    clear hK K
    refine wpAnyH_ready (rs := [8]) (by kernel_rfl) (by simp) ?_
    refine AllReadyH.cons rfl (fun K hK => ?_) AllReadyH.nil
    rw [if_pos (by rfl)]
    refine wp_append_item _ _ rfl (W5) w3.heap.size _ [] rfl hg b7 (by omega) w6.heap.size x m gm cq rfl (box0 _ _ _ _) (box1 _ _ _ _) (ho.below hbx) hgm' hcm hll ?_
    intro v' w8 hg8 b8
    have B8 : Below w.heap.size w w8 := B7.trans (b8.mono hz3)
    have S4 : w8.cell? ⟨w.heap.size, 0, none⟩ = some (.int .i64 x) ∧ w8.cell? ⟨w.heap.size, 1, none⟩ = some (.slice am m.length cm) := ⟨(b8.cell (p := ⟨w.heap.size, 0, none⟩) hlt3).trans S3.1, (b8.cell (p := ⟨w.heap.size, 1, none⟩) hlt3).trans S3.2⟩
    refine hK.out _ _ S4 (fun _ => ?_)
    clear hK K
    refine wpAnyH_ready (rs := [9]) (by kernel_rfl) (by simp) ?_
    refine AllReadyH.cons rfl (fun K hK => ?_) AllReadyH.nil
    rw [if_pos (by rfl)]
    go_simp
    refine hK.out _ _ S4 (fun _ => ?_)
    clear hK K
    refine wpAnyH_done (by kernel_rfl) ?_ _
    obtain ⟨a8, c8, rfl, hc8⟩ := hg8.len
    clear S2 S3 S4 b6' b7 b8 hbx B6 B7 ho e0 e1 hg rm5
    have HPL : Hid (putL [] (x, m) = [] ++ [(x, m)]) := putL_room (by simp)
    have HG : Hid (GathI w8 w3.heap.size (.slice a8 1 c8) ([] ++ [(x, m)])) := hg8
    clear hg8 hc8
    go_wp2_with fail
    exact bodyPost_ret (v := .tuple #[.slice a8 1 c8, .int .i64 0]) (by simp [results, Tryz.results42, go_sem]) rfl ⟨⟨_, [] ++ [(x, m)], 0, rfl, by rw [← HPL.out]; exact isP_taken HM.out HT.out, HG.out.lower hz3⟩, B8⟩

end Go.Proofs.YtpfhegengmlkmacGreatDoor
/- What WindowPut answers is few items with stamps. -/
namespace Go.Proofs.YtpfhegengmlkmacGreatDoor
open Go.RowKit Go.BigFrame
set_option maxRecDepth 100000

theorem lens_le {l : List ItemL} {n : Nat} (h : ∀ j, (hj : j < l.length) → l[j].2.length ≤ n) : lens l ≤ l.length * n := by
  induction l with
  | nil => simp [lens]
  | cons y t ih =>
    have h0 := h 0 (by simp)
    have ht := ih (fun j hj => by have := h (j + 1) (by simpa using hj); simpa using this)
    simp only [lens, List.length_cons, List.getElem_cons_zero] at h0 ⊢
    rw [Nat.succ_mul]
    omega
/-- Items with stamps alone. -/
def StampsP (l : List ItemL) : Prop := l.length ≤ 5 ∧ ∀ j, (hj : j < l.length) → StampP l[j].2
theorem StampsP.fit {l : List ItemL} (h : StampsP l) : FitI l := ⟨by have := h.1; unfold maxLen; omega, fun j hj => stamp_fit (h.2 j hj)⟩
theorem StampsP.small {l : List ItemL} (h : StampsP l) : Small1 l := ⟨by have := h.1; omega, fun j hj => by have := (h.2 j hj).1; omega⟩
theorem StampsP.lens {l : List ItemL} (h : StampsP l) : lens l ≤ 60 := by
  have h1 := lens_le (n := 12) (fun j hj => (h.2 j hj).1)
  have := h.1
  omega
theorem isP_stamps {l : List ItemL} {x : Int} {m : List (ByteArray × Int)} {r : List ItemL} {c : Int} (h : IsP l x m r c) : StampsP r := by
  by_cases hp : WinP l ∧ StampP m ∧ m ≠ []
  · have hs : ∀ k, (h : k < l.length) → StampP l[k].2 := fun k hk => (hp.1.2.1 k hk).1
    have h4 := hp.1.1
    by_cases ht : TakeP l m
    · rw [(h.2.2 hp ht).1]
      unfold putL
      split
      · exact ⟨by simp; omega, stamps_put hs hp.2.1⟩
      · exact ⟨by simp; omega, stamps_put (stamps_tail hs) hp.2.1⟩
    · rw [(h.2.1 hp ht).1]
      exact ⟨by omega, hs⟩
  · rw [(h.1 hp).1]
    exact ⟨by simp, fun j hj => absurd hj (Nat.not_lt_zero j)⟩

end Go.Proofs.YtpfhegengmlkmacGreatDoor
/- Walks: freshItems. -/
namespace Go.Proofs.YtpfhegengmlkmacGreatDoor
open Go.RowKit Go.BigFrame
set_option maxRecDepth 100000

set_option maxHeartbeats 1600000 in
theorem freshItems_any (a : Option Addr) (c : Nat) (l : List ItemL) (w : World) (hr : RowI w a l) (hn : l.length ≤ 1048576) (hl : ∀ k, (h : k < l.length) → StampP l[k].2) :
    Calls Tryz.prog 133 #[.slice a l.length c] w fun e w' => (∃ v, e = .returned v ∧ GathI w' w.heap.size v l) ∧ Below w.heap.size w w' := by
  obtain ⟨i0, hi, hz0, hz1, hz2⟩ := info_parts Tryz.infoI
  have hmk : ∀ u : World, (Instr.makeSlice 78 (.int .i64 0) (.int .i64 (l.length : Int))).run Tryz.prog u =
      .ok (.slice (some ⟨u.heap.size, 0, none⟩) 0 l.length) (u.alloc (.cells (madeCells #[.int .i64 0, .slice none 0 0] (l.length * 2)) 44)) := fun u => by
    have h := run_make (P := Tryz.prog) u 78 44 i0 (.agg #[.int .i64 0, .slice none 0 0]) Tryz.underlying78 hi hz0 .i64 .i64 0 (l.length : Int) (by omega) (by omega) (by rw [hz2]; omega) (by omega)
    simpa [hz1, Value.cells] using h
  have hb0 : Below w.heap.size w (w.alloc (.cells (madeCells #[.int .i64 0, .slice none 0 0] (l.length * 2)) 44)) := (Below.refl _ _).alloc (Nat.le_refl _) _
  have hg0 : GathI (w.alloc (.cells (madeCells #[.int .i64 0, .slice none 0 0] (l.length * 2)) 44)) w.heap.size (.slice (some ⟨w.heap.size, 0, none⟩) 0 l.length) [] :=
    ⟨[], rfl, ⟨rfl, .inr ⟨w.heap.size, l.length, madeCells #[.int .i64 0, .slice none 0 0] (l.length * 2), rfl, Nat.le_refl _, heap_alloc_new w _, Nat.zero_le _, by unfold maxLen; omega, size_madeCells _ _, rfl⟩⟩, by simp, List.Pairwise.nil⟩
  have HSL : Hid (∀ k, (h : k < l.length) → StampP l[k].2) := hl
  clear hl
  go_enter Tryz.func133, Tryz.ntmps133
  go_wp2_with fail
  generalize (w.alloc (.cells (madeCells #[.int .i64 0, .slice none 0 0] (l.length * 2)) 44)) = W1 at *
  clear hmk
  go_loopw [3, 11] (fun out i wr => ∃ k : Nat, k ≤ l.length ∧ i = .int .i64 k ∧ GathI wr w.heap.size out (l.take k) ∧ Below w.heap.size w wr) (fun _ i _ => l.length - (intOf i).toNat)
  case atStart => exact ⟨0, Nat.zero_le _, rfl, hg0, hb0⟩
  case round =>
    obtain ⟨k, hk, rfl, hg, hb⟩ := hrel
    clear hg0 hb0
    by_cases hlt : k < l.length
    · obtain ⟨b, o, rfl, hblt, c0, v, c1, ⟨sa, sc, rfl, hcap, hrow⟩⟩ := hr.below hb k hlt
      have k0 : (0 : Int) ≤ (k : Int) := by omega
      have k1 : (k : Int) < (l.length : Int) := by omega
      have HT : Hid (l.take (k + 1) = l.take k ++ [(l[k].1, l[k].2)]) := List.take_succ_eq_append_getElem hlt
      have htl : (l.take k).length ≤ 1048576 := by rw [List.length_take]; omega
      have hzr := hb.size
      have hst := HSL.out k hlt
      have hlk : l[k].2.length ≤ 1048576 := by have := hst.1; omega
      have HL : Hid (∀ j, (h : j < l[k].2.length) → l[k].2[j].1.size ≤ 281474976710656) := fun j hj => by have := (hst.2.1 j hj).1.2.1; omega
      clear hst
      go_wp2_with fail
      have b3 : Below wr.heap.size wr (wr.alloc (.cells #[.int .i64 l[k].1, .slice sa l[k].2.length sc] 44)) := (Below.refl _ _).alloc (Nat.le_refl _) _
      refine (freshItem_any l[k].1 sa sc l[k].2 _ (hrow.below b3) hlk HL.out).mono ?_
      rintro e w4 ⟨⟨gm, cm, rfl, hgm, hcm, ho⟩, b4⟩
      have b4' : Below wr.heap.size wr w4 := b3.trans (b4.mono b3.size)
      have z3 := b3.size
      have z4 := b4'.size
      have b5 : Below wr.heap.size wr (w4.alloc (.cells #[.int .i64 l[k].1, .slice (some ⟨gm, 0, none⟩) l[k].2.length cm] 44)) := b4'.alloc b4'.size _
      have hbx : Below w4.heap.size w4 (w4.alloc (.cells #[.int .i64 l[k].1, .slice (some ⟨gm, 0, none⟩) l[k].2.length cm] 44)) := (Below.refl _ _).alloc (Nat.le_refl _) _
      have ho5 := ho.below hbx
      have B5 : Below w.heap.size w (w4.alloc (.cells #[.int .i64 l[k].1, .slice (some ⟨gm, 0, none⟩) l[k].2.length cm] 44)) := hb.trans (b5.mono hzr)
      clear b3 b4 b4' hrow hbx ho
      go_wp2_with (at_builtin; refine wpList_append_item rfl _ _ rfl wr w.heap.size _ (l.take k) rfl hg b5 hzr w4.heap.size l[k].1 l[k].2 gm cm rfl (box0 _ _ _ _) (box1 _ _ _ _) ho5 (by omega) hcm htl ?_; intro v' w6 hg6 b6)
      exact ⟨⟨k + 1, by omega, by go_num, by rw [HT.out]; exact hg6, B5.trans b6⟩, by simp [intOf]; omega⟩
    · rw [List.take_of_length_le (by omega)] at hg
      go_wp2_with fail
      go_ret
      exact ⟨⟨_, rfl, hg⟩, hb⟩

end Go.Proofs.YtpfhegengmlkmacGreatDoor
