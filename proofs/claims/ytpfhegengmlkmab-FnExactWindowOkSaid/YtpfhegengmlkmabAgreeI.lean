/- The walk of impl.StampAgree. -/
import Derived.Test.YtpfhegengmlkmabSideC
import Derived.Test.YtpfhegengmlkmabWf
import Derived.Test.YtpfhegengmlkmabRoundT
import Derived.Test.YtpfhegengmlkmabSpecAO
namespace Go.Proofs.Ytpfhegengmlkmab
open Go.RowKit Go.Shelf Go.BigFrame
attribute [local go_sem] Oper.semAt_some

/-- A pair that does not agree. -/
def Bad (x : (ByteArray × Int) × (ByteArray × Int)) : Prop := 0 < x.1.2 ∧ 0 < x.2.2 ∧ x.1 ≠ x.2

theorem agree_of_good {a b : List (ByteArray × Int)} {P : List ((ByteArray × Int) × (ByteArray × Int))} (ha : StampP a) (hb : StampP b) (hP : PSpec a b P) (h : ∀ p ∈ P, ¬ Bad p) : AgreeP a b := by
  refine ⟨ha, hb, fun i hi => ?_⟩
  have sa := stamp_sorted ha
  have sb := stamp_sorted hb
  have e1 : getM a a[i].1 = a[i].2 := getM_mem sa (List.getElem_mem hi)
  have e2 := sa.2 _ (List.getElem_mem hi)
  have e3 := getM_nonneg (s := a[i].1) sb
  by_cases h0 : getM b a[i].1 = 0
  · exact .inl h0
  obtain ⟨p, hm, hp⟩ := hP.all a[i].1 (.inl (by omega))
  obtain ⟨p1, p2, _⟩ := hP.mem p hm
  rw [hp] at p1 p2
  right
  by_cases hq : p.1 = p.2
  · rw [p1, p2] at hq
    have := (Prod.mk.inj hq).2
    omega
  · exact absurd ⟨by rw [p1]; simp only; omega, by rw [p2]; simp only; omega, hq⟩ (h p hm)
theorem not_agree_of_bad {a b : List (ByteArray × Int)} {P : List ((ByteArray × Int) × (ByteArray × Int))} (hP : PSpec a b P) {p : (ByteArray × Int) × (ByteArray × Int)} (hm : p ∈ P) (h : Bad p) : ¬ AgreeP a b := by
  rintro ⟨ha, hb, hall⟩
  obtain ⟨p1, p2, _⟩ := hP.mem p hm
  obtain ⟨h1, h2, h3⟩ := h
  rw [p1] at h1
  rw [p2] at h2
  simp only at h1 h2
  have hmem := getM_pos h1
  obtain ⟨i, hi, e⟩ := List.mem_iff_getElem.1 hmem
  have := hall i hi
  rw [e] at this
  simp only at this
  rcases this with h | h
  · omega
  · exact h3 (by rw [p1, p2, h])

theorem had_true (s : ByteArray) (v : Int) (w : World) (h : 0 < v) : Calls Try.prog 63 #[.agg #[.string s, .int .i64 v]] w fun e w' => e = .returned (.bool true) ∧ Below w.heap.size w w' :=
  (had_any s v w).mono fun e w' ⟨h1, h2⟩ => ⟨by rw [h1, decide_eq_true h], h2⟩
theorem had_false (s : ByteArray) (v : Int) (w : World) (h : ¬ 0 < v) : Calls Try.prog 63 #[.agg #[.string s, .int .i64 v]] w fun e w' => e = .returned (.bool false) ∧ Below w.heap.size w w' :=
  (had_any s v w).mono fun e w' ⟨h1, h2⟩ => ⟨by rw [h1, decide_eq_false h], h2⟩
theorem keepsFrom_below (B : Nat) {W W' : World} (h : Below W.heap.size W W') : KeepsFrom B W W' := ⟨h.size, fun k _ _ hk _ => (h.block k (Array.getElem?_eq_some_iff.1 hk).1).trans hk⟩

set_option maxRecDepth 100000 in
set_option maxHeartbeats 4000000 in
theorem implAgree_any (aa ab : Option Addr) (ca cb : Nat) (la lb : List (ByteArray × Int)) (w : World) (hla : la.length ≤ maxLen) (hlb : lb.length ≤ maxLen) (hca : la.length ≤ ca) (hcb : lb.length ≤ cb) (ha : Row w aa la) (hb : Row w ab lb)
    (hsa : ∀ j, (h : j < la.length) → la[j].1.size ≤ maxLen) (hsb : ∀ j, (h : j < lb.length) → lb[j].1.size ≤ maxLen) :
    Calls Try.prog 25 #[.slice aa la.length ca, .slice ab lb.length cb] w fun e w' => IsB (AgreeP la lb) e ∧ Below w.heap.size w w' := by
  refine (callsIn_wide (n := 5)).1 ?_
  refine callsIn_of_wp_marks Try.func25 rfl trivial ?_ rfl
  simp only [Try.ntmps25, List.size_toArray, List.length_cons, List.length_nil, Nat.reduceAdd, Nat.reduceSub, Array.replicate_succ, Array.replicate_zero, List.push_toArray, List.append_toArray, List.nil_append, List.cons_append]
  gi_wp2_with fail
  have hba : Below w.heap.size w (w.alloc (.cells #[.bool false] 4)) := (Below.refl _ _).alloc (Nat.le_refl _) _
  refine ⟨trivial, (callsIn_wide.2 (implStampOk_any aa ca la _ hla (ha.below hba) hsa)).mono ?_⟩
  rintro e w1 ⟨⟨r, rfl, hr1⟩, hb1⟩
  have B1 : Below w.heap.size w w1 := hba.trans (hb1.mono hba.size)
  have c1 : w1.cell? ⟨w.heap.size, 0, none⟩ = some (.bool false) := cell_on hb1 (by simp) (by simp [go_sem])
  have f1 : w1.frozen? ⟨w.heap.size, 0, none⟩ = false := (hb1.frozen (p := ⟨w.heap.size, 0, none⟩) (by simp)).trans (by simp [go_sem])
  have z1 : w.heap.size < w1.heap.size := block_lt_of_cell c1
  clear hb1
  cases r
  · have hn : ¬ StampP la := fun h => by simpa using hr1.2 h
    clear hr1
    gi_wp2_with fail
    refine ⟨trivial, ?_⟩
    gi_wp2_with fail
    refine ⟨.bool false, ?_, isB_false (fun h => hn h.1), B1.setCell (p := ⟨w.heap.size, 0, none⟩) (Nat.le_refl _) _⟩
    simp [results, Try.f25, go_sem, c1]
  have hya : StampP la := hr1.1 rfl
  clear hr1
  gi_wp2_with fail
  refine ⟨trivial, (callsIn_wide.2 (implStampOk_any ab cb lb _ hlb (hb.below B1) hsb)).mono ?_⟩
  rintro e w2 ⟨⟨r, rfl, hr2⟩, hb2⟩
  have B2 : Below w.heap.size w w2 := B1.trans (hb2.mono B1.size)
  have c2 := cell_on hb2 z1 c1
  have f2 : w2.frozen? ⟨w.heap.size, 0, none⟩ = false := (hb2.frozen (p := ⟨w.heap.size, 0, none⟩) z1).trans f1
  have z2 : w.heap.size < w2.heap.size := block_lt_of_cell c2
  clear hb2 c1 f1 z1 B1
  cases r
  · have hn : ¬ StampP lb := fun h => by simpa using hr2.2 h
    clear hr2
    gi_wp2_with fail
    refine ⟨.bool false, ?_, isB_false (fun h => hn h.2.1), B2.setCell (p := ⟨w.heap.size, 0, none⟩) (Nat.le_refl _) _⟩
    simp [results, Try.f25, go_sem, c2]
  have hyb : StampP lb := hr2.1 rfl
  clear hr2
  gi_wp2_with fail
  refine ⟨trivial, (callsIn_wide.2 (sideBySide_any aa ab _ _ ca cb _)).mono ?_⟩
  rintro e w3 ⟨rfl, rfl⟩
  obtain ⟨W0, hW0⟩ : ∃ W0, (w2.alloc (.cells #[.slice aa la.length ca] 25)).alloc (.cells #[.slice ab lb.length cb] 25) = W0 := ⟨_, rfl⟩
  have cA : W0.cell? ⟨w2.heap.size, 0, none⟩ = some (.slice aa la.length ca) := by rw [← hW0]; simp [go_sem]
  have cB : W0.cell? ⟨w2.heap.size + 1, 0, none⟩ = some (.slice ab lb.length cb) := by rw [← hW0]; simp [go_sem]
  have nA3 : W0.cell? ⟨w2.heap.size, 3, none⟩ = none := by rw [← hW0]; simp [go_sem]
  have nB3 : W0.cell? ⟨w2.heap.size + 1, 3, none⟩ = none := by rw [← hW0]; simp [go_sem]
  have hsz : W0.heap.size = w2.heap.size + 2 := by rw [← hW0]; simp
  have b20 : Below w2.heap.size w2 W0 := by rw [← hW0]; exact ((Below.refl _ _).alloc (Nat.le_refl _) _).alloc (by simp) _
  have B0 : Below w.heap.size w W0 := B2.trans (b20.mono (Nat.le_of_lt z2))
  have c0 := cell_on b20 z2 c2
  have f0 : W0.frozen? ⟨w.heap.size, 0, none⟩ = false := (b20.frozen (p := ⟨w.heap.size, 0, none⟩) z2).trans f2
  rw [hW0]
  clear hW0 b20 c2 f2
  gi_wp2_with fail
  refine wpIn_rangeFunc_ownH (n := 5) rfl (by omega) (gf := 81) (lb := #[.pointer (some ⟨w2.heap.size, 0, none⟩), .pointer (some ⟨w2.heap.size + 1, 0, none⟩)]) rfl trivial (enters_of Try.func81 (by kernel_rfl) rfl)
    (side_stops 4 w.heap.size w2.heap.size w2.heap.size (w2.heap.size + 1) aa ab ca cb la lb hca hcb hya hyb (Nat.le_refl _) (by omega) W0 (by omega) cA cB nA3 nB3 (ha.low.below B0) (hb.low.below B0)) KS.trans (fun W l o o' _ h1 h2 _ => KS.put W l o o' h1 h2) (Below.refl _ _) (fun _ => rfl)
    (fun pre W => (W.cell? ⟨w.heap.size, 0, none⟩ = some (.bool false) ∧ W.frozen? ⟨w.heap.size, 0, none⟩ = false ∧ (∀ y ∈ pre, ¬ Bad y.p) ∧ W0.heap.size ≤ W.heap.size) ∧ Below w.heap.size w W)
    (fun c pre W => (c = .ret ∧ (∃ y ∈ pre, Bad y.p) ∧ W.cell? ⟨w.heap.size, 0, none⟩ = some (.bool false)) ∧ Below w.heap.size w W)
    (OwnFrom.and (Go.Own.from (fun s A B row hs hg hr => ⟨cell_kept hs.1 hg hr, (frozen_kept hs.1 hg hr).trans hs.2.1, hs.2.2.1, Nat.le_trans hs.2.2.2 hg.size⟩) _) (ownFrom_below (Nat.le_refl _) (by omega)))
    (fun c => OwnFrom.and (Go.Own.from (fun s A B row hs hg hr => ⟨hs.1, hs.2.1, cell_kept hs.2.2 hg hr⟩) _) (ownFrom_below (Nat.le_refl _) (by omega)))
    ⟨⟨c0, f0, by simp, Nat.le_refl _⟩, B0⟩
    (fun x a' W => ∃ bx bz, W0.heap.size ≤ bx ∧ W0.heap.size ≤ bz ∧ (W.cell? ⟨bx, 0, none⟩ = some (.string x.p.1.1) ∧ W.cell? ⟨bx, 1, none⟩ = some (.int .i64 x.p.1.2) ∧ W.cell? ⟨bz, 0, none⟩ = some (.string x.p.2.1) ∧ W.cell? ⟨bz, 1, none⟩ = some (.int .i64 x.p.2.2)) ∧ a' = { tmps := #[.slice aa la.length ca, .slice ab lb.length cb, undef, undef, .pointer (some ⟨w.heap.size, 0, none⟩), .pointer (some ⟨bx, 0, none⟩), .pointer (some ⟨bz, 0, none⟩), .slice aa la.length ca, .bool true, .bool false, .bool false, .slice ab lb.length cb, .bool true, .bool false, .bool false, .slice aa la.length ca, .slice ab lb.length cb, .func (.func 81) #[] #[.pointer (some ⟨w2.heap.size, 0, none⟩), .pointer (some ⟨w2.heap.size + 1, 0, none⟩)], .agg #[.string x.p.1.1, .int .i64 x.p.1.2], .agg #[.string x.p.2.1, .int .i64 x.p.2.2], undef, undef, undef, undef, undef, undef, undef, undef, undef, undef, undef], defers := [] })
    (fun x a' s A B row hs hg hr => by
      obtain ⟨bx, bz, h1, h2, h3, h4⟩ := hs
      exact ⟨bx, bz, h1, h2, ⟨cell_kept h3.1 hg (fun r e => (hr r e).2), cell_kept h3.2.1 hg (fun r e => (hr r e).2), cell_kept h3.2.2.1 hg (fun r e => (hr r e).2), cell_kept h3.2.2.2 hg (fun r e => (hr r e).2)⟩, h4⟩) ?assign ?body ?done ?stop
  case assign =>
    rintro l pre x W K ⟨⟨hc, hf, hp, hW0⟩, hB⟩ hK
    simp only [encP]
    gi_wp2
    have hb2 : Below W.heap.size W ((W.alloc (.cells #[.string x.p.1.1, .int .i64 x.p.1.2] 68)).alloc (.cells #[.string x.p.2.1, .int .i64 x.p.2.2] 68)) := ((Below.refl _ _).alloc (Nat.le_refl _) _).alloc (by simp) _
    have hWl := block_lt_of_cell hc
    exact hK _ _ (keepsFrom_below _ hb2) (KS.of_below hb2) ⟨⟨cell_on hb2 hWl hc, (hb2.frozen (p := ⟨w.heap.size, 0, none⟩) hWl).trans hf, hp, Nat.le_trans hW0 hb2.size⟩, hB.trans (hb2.mono hB.size)⟩ ⟨W.heap.size, W.heap.size + 1, hW0, Nat.le_succ_of_le hW0, ⟨by simp [go_sem], by simp [go_sem], by simp [go_sem], by simp [go_sem]⟩, rfl⟩
  case body =>
    rintro l pre x a' W hle ⟨r, hr⟩ ⟨⟨hc, hf, hp, hW0⟩, hB⟩ ⟨bx, bz, h1, h2, ⟨x0, x1, z0, z1⟩, rfl⟩ hlt
    have hWl := block_lt_of_cell hc
    have hok : ∀ W', Below W.heap.size W W' → ¬ Bad x.p → KeepsFrom W0.heap.size W W' ∧ KS w.heap.size w2.heap.size W W' ∧ (W'.cell? ⟨w.heap.size, 0, none⟩ = some (.bool false) ∧ W'.frozen? ⟨w.heap.size, 0, none⟩ = false ∧ (∀ y ∈ pre ++ [x], ¬ Bad y.p) ∧ W0.heap.size ≤ W'.heap.size) ∧ Below w.heap.size w W' :=
      fun W' h hn => ⟨keepsFrom_below _ h, KS.of_below h, ⟨cell_on h hWl hc, (h.frozen (p := ⟨w.heap.size, 0, none⟩) hWl).trans hf, fun y hy => (List.mem_append.1 hy).elim (hp y) fun e => by simp at e; subst e; exact hn, Nat.le_trans hW0 h.size⟩, hB.trans (h.mono hB.size)⟩
    have HOK : Hid _ := hok
    have hbd : ∀ W', Below W.heap.size W W' → W'.cell? ⟨w.heap.size, 0, none⟩ = some (.bool false) → Bad x.p → KeepsFrom W0.heap.size W (W'.setCell ⟨w.heap.size, 0, none⟩ (.bool false)) ∧ (((∃ y ∈ pre ++ [x], Bad y.p) ∧ (W'.setCell ⟨w.heap.size, 0, none⟩ (.bool false)).cell? ⟨w.heap.size, 0, none⟩ = some (.bool false)) ∧ Below w.heap.size w (W'.setCell ⟨w.heap.size, 0, none⟩ (.bool false))) :=
      fun W' h hc' hx => ⟨(keepsFrom_below _ h).trans ((KeepsOthers.setCell _ _ _).from _), ⟨⟨x, by simp, hx⟩, World.cell?_setCell_same' _ _ _ (by rw [hc']; rfl)⟩, (hB.trans (h.mono hB.size)).setCell (p := ⟨w.heap.size, 0, none⟩) (Nat.le_refl _) _⟩
    have HBAD : Hid _ := hbd
    clear hok hbd
    by_cases e1 : 0 < x.p.1.2
    · gi_wp2_with fail
      refine ⟨trivial, (CallsIn.inRound l (callsIn_wide.2 (had_true _ _ _ e1))).mono ?_⟩
      rintro e w3 ⟨rfl, hb3⟩
      have x0' := cell_on hb3 (block_lt_of_cell x0) x0
      have x1' := cell_on hb3 (block_lt_of_cell x1) x1
      have z0' := cell_on hb3 (block_lt_of_cell z0) z0
      have z1' := cell_on hb3 (block_lt_of_cell z1) z1
      by_cases e2 : 0 < x.p.2.2
      · gi_wp2_with fail
        refine ⟨trivial, (CallsIn.inRound l (callsIn_wide.2 (had_true _ _ _ e2))).mono ?_⟩
        rintro e w4 ⟨rfl, hb4⟩
        have x0 := cell_on hb4 (block_lt_of_cell x0') x0'
        have x1 := cell_on hb4 (block_lt_of_cell x1') x1'
        have z0 := cell_on hb4 (block_lt_of_cell z0') z0'
        have z1 := cell_on hb4 (block_lt_of_cell z1') z1'
        have hb34 := hb3.trans (hb4.mono hb3.size)
        have hc4 := cell_on hb34 hWl hc
        have hf4 := (hb34.frozen (p := ⟨w.heap.size, 0, none⟩) hWl).trans hf
        clear x0' x1' z0' z1' hc hf
        gi_wp2_with fail
        · rename_i hs hv
          exact HOK.out w4 hb34 (fun h => h.2.2 (Prod.ext (toList_inj hs) hv))
        · rename_i hs hv
          have q := HBAD.out w4 hb34 hc4 ⟨e1, e2, fun h => hv (by rw [h])⟩
          exact ⟨q.1, ⟨rfl, q.2.1⟩, q.2.2⟩
        · rename_i hs
          have q := HBAD.out w4 hb34 hc4 ⟨e1, e2, fun h => hs (by rw [h])⟩
          exact ⟨q.1, ⟨rfl, q.2.1⟩, q.2.2⟩
      · gi_wp2_with fail
        refine ⟨trivial, (CallsIn.inRound l (callsIn_wide.2 (had_false _ _ _ (Int.not_lt.2 e2)))).mono ?_⟩
        rintro e w4 ⟨rfl, hb4⟩
        gi_wp2_with fail
        exact HOK.out w4 (hb3.trans (hb4.mono hb3.size)) (fun h => absurd h.2.1 (Int.not_lt.2 e2))
    · gi_wp2_with fail
      refine ⟨trivial, (CallsIn.inRound l (callsIn_wide.2 (had_false _ _ _ (Int.not_lt.2 e1)))).mono ?_⟩
      rintro e w3 ⟨rfl, hb3⟩
      gi_wp2_with fail
      refine ⟨trivial, ?_⟩
      gi_wp2_with fail
      exact HOK.out w3 hb3 (fun h => absurd h.1 (Int.not_lt.2 e1))
  case done =>
    rintro D ys W hD hS ⟨⟨hc, hf, hne, _⟩, hB⟩ hK
    gi_wp2
    have hK' := (KeepsOthers.setCell W ⟨w.heap.size, 0, none⟩ (.bool true)).same D _ hK rfl
    refine ⟨by simp, .inl ⟨_, _, rfl, run_takeDeferred hK', ?_⟩⟩
    have hc5 := cell_kept (World.cell?_setCell_same' W ⟨w.heap.size, 0, none⟩ (.bool true) (by rw [hc]; rfl)) (grownBy_putObj' _ D (.deferred none)) (fun r e => by cases e; exact ⟨_, hK', rfl⟩)
    refine ⟨.bool true, ?_, isB_true (agree_of_good hya hyb (pairs_spec _ la lb (stamp_sorted hya) (stamp_sorted hyb) (Nat.le_refl _)) ?_), (hB.setCell (p := ⟨w.heap.size, 0, none⟩) (Nat.le_refl _) _).trans (belowK_b (w := w) (Nat.le_refl _) _ D _ _ (by omega) hK' rfl rfl)⟩
    · simp [results, Try.f25, go_sem, hc5]
    · rw [← hS]
      intro p hp
      obtain ⟨y, hy, rfl⟩ := List.mem_map.1 hp
      exact hne y hy
  case stop =>
    rintro D c pre W hD hpre ⟨⟨rfl, ⟨y, hy, hbad⟩, hcr⟩, hB⟩ hK
    gi_wp2
    refine ⟨by simp, .inl ⟨_, _, rfl, run_takeDeferred hK, ?_⟩⟩
    have hc5 := cell_kept hcr (grownBy_putObj' _ D (.deferred none)) (fun r e => by cases e; exact ⟨_, hK, rfl⟩)
    refine ⟨.bool false, ?_, isB_false (not_agree_of_bad (pairs_spec _ la lb (stamp_sorted hya) (stamp_sorted hyb) (Nat.le_refl _)) (hpre.subset (List.mem_map.2 ⟨y, hy, rfl⟩)) hbad), hB.trans (belowK_b (w := w) (Nat.le_refl _) W D _ _ (by omega) hK rfl rfl)⟩
    simp [results, Try.f25, go_sem, hc5]

end Go.Proofs.Ytpfhegengmlkmab
