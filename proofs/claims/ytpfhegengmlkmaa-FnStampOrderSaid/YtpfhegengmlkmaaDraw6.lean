/- Walk: DrawStampOrder. -/
import Derived.Test.YtpfhegengmlkmaaDraw5
namespace Go.Proofs.Ytpfhegengmlkmaa
open Go.RowKit Go.BigFrame
set_option maxRecDepth 100000

theorem wpList_append_all {ops : Array Oper} {rest : List Oper} {o : Oper} {a : Act} {w : World} {Q : Exit → Act → World → Prop} (hgd : o.guard = none) (s x : Operand)
    (ho : o.op = .call { callee := .builtin .append, args := #[s, x], argTypes := #[23, 23] }) (base B e0 g cap : Nat) (l : List (ByteArray × Int)) (hs : a.eval s = .slice (some ⟨e0, 0, none⟩) 0 0) (he : w.heap[e0]? = some (.cells #[] 65 (0, 0))) (hb : base ≤ e0)
    (hx : a.eval x = .slice (some ⟨g, 0, none⟩) l.length cap) (hg : Gath w B (.slice (some ⟨g, 0, none⟩) l.length cap) l) (hl0 : 0 < l.length) (hl : l.length ≤ 1048576)
    (h : ∀ g' cap' w', Gath w' base (.slice (some ⟨g', 0, none⟩) l.length cap') l → w.grownBy w' (some e0) → wpList Try.prog ops Q rest (a.put o.dst (.slice (some ⟨g', 0, none⟩) l.length cap')) w') : wpList Try.prog ops Q (o :: rest) a w :=
  wpList_plain hgd fun _ hK => wp_append_all s x ho base B e0 g cap l hs he hb hx hg hl0 hl fun v' w' h1 h2 => by
    rcases h1.form with ⟨_, rfl⟩ | ⟨g', cap', rfl, _⟩
    · simp at hl0
    · exact hK _ _ (h g' cap' w' h1 h2)

set_option maxHeartbeats 1600000 in
theorem drawOrder_any (ab : Option Addr) (n c : Nat) (w : World) (h : Bytes w ab n c) :
    Calls Try.prog 16 #[.slice ab n c] w fun e w' => (∃ va la vb lb, e = .returned (.tuple #[va, vb]) ∧ Mks w' w.heap.size va la ∧ Mks w' w.heap.size vb lb) ∧ Below w.heap.size w w' := by
  go_enter Try.func16, Try.ntmps16
  go_wp2_with fail
  refine (l1Open_any ab n c _ h).mono ?_
  rintro e w1 ⟨⟨m, rfl, hr1⟩, hb1⟩
  have hR := hr1.lt
  go_wp2_with fail
  refine (l6Marks_mks _ m c 0 ab _ hr1 (by omega)).mono ?_
  rintro e w2 ⟨⟨va, la, p2, rfl, hm2, hl2, hr2, hp2⟩, hb2⟩
  have z2 := hb2.size
  go_wp2_with fail
  refine (pick_any _ m c p2 ab _ _ hr2 (by omega) (by omega) (by omega)).mono ?_
  rintro e w3 ⟨⟨x, rfl, hx0, hx1⟩, hr3, hb3⟩
  have hm3 := hm2.but hb3 hR
  have hb13 : But w.heap.size w1 w3 := hb2.trans hb3
  have z3 := hb13.size
  clear hr1 hr2 hm2 h hb2 hb3
  by_cases hx : 0 < x
  · have hx' : decide (0 < x) = true := by simp; omega
    by_cases hl0 : la.length = 0
    · obtain rfl : la = [] := List.length_eq_zero_iff.1 hl0
      have HF : Hid (∀ W v, Below w3.heap.size w3 W → Gath W w3.heap.size v [] → (∃ va' la' vb' lb', Ending.returned (.tuple #[va, v]) = .returned (.tuple #[va', vb']) ∧ Mks W w.heap.size va' la' ∧ Mks W w.heap.size vb' lb') ∧ Below w.heap.size w W) := by
        intro W v hb hv
        refine ⟨⟨_, [], _, [], rfl, (hm3.keep hb).lower (by omega), ⟨hv.lower (by omega), by simp, by simp⟩⟩, hb1.trans ((hb13.trans (But.of_below hb)).below (Nat.le_refl _) (by omega))⟩
      have HE : Hid (Gath (w3.alloc (.cells #[] 65)) w3.heap.size (.slice (some ⟨w3.heap.size, 0, none⟩) 0 0) []) :=
        ⟨rfl, .inr ⟨w3.heap.size, 0, #[], rfl, Nat.le_refl _, heap_alloc_new w3 _, Nat.le_refl _, Nat.zero_le _, rfl, rfl⟩⟩
      have hba : Below w3.heap.size w3 (w3.alloc (.cells #[] 65)) := (Below.refl _ _).alloc (Nat.le_refl _) _
      rcases hm3.g.form with ⟨rfl, _⟩ | ⟨g, cap, rfl, _, _⟩
      all_goals
        clear hm3 hr3 hb1 hb13
        go_wp2_with fail
        go_loopw [7] (fun i wr => i = .int .i64 0 ∧ wr = w3.alloc (.cells #[] 65)) (fun _ _ => 0)
        case atStart => exact ⟨rfl, rfl⟩
        case round =>
          obtain ⟨rfl, rfl⟩ := hrel
          go_wp2_with fail
          exact bodyPost_ret (v := .tuple #[_, _]) (by simp [results, Try.results16, go_sem]) rfl (HF.out _ _ hba HE.out)
    · obtain ⟨g, cap, rfl, hgB⟩ : ∃ g cap, va = .slice (some ⟨g, 0, none⟩) la.length cap ∧ w1.heap.size ≤ g := by
        rcases hm3.g.form with ⟨_, rfl⟩ | ⟨g, cap', hv, hgB, _⟩
        · simp at hl0
        · exact ⟨g, cap', hv, hgB⟩
      have hba : Below w3.heap.size w3 (w3.alloc (.cells #[] 65)) := (Below.refl _ _).alloc (Nat.le_refl _) _
      go_wp2_with (at_builtin; refine wpList_append_all rfl _ _ rfl w3.heap.size w1.heap.size w3.heap.size g cap la rfl (heap_alloc_new w3 _) (Nat.le_refl _) rfl (hm3.g.keep hba) (by omega) (by omega) ?_; intro g' cap' w4 hg4 hgrow)
      have hgl4 := World.ownsRow.frozenAt hg4 0
      have hB4 : But w.heap.size w3 w4 := (But.of_below hba).grown hgrow (fun q e => by simp at e; omega)
      have hr4 := (hr3.below hba).grown hgrow (fun q e => by simp at e; omega)
      have hs4 : ∀ m ∈ la, m.1.size ≤ 2000 := hm3.size
      have hg'B : w3.heap.size ≤ g' := by
        rcases hg4.form with ⟨_, rfl⟩ | ⟨q, cq, hv, hq, _⟩
        · simp at hl0
        · simp only [Value.slice.injEq, Option.some.injEq, Addr.mk.injEq] at hv; omega
      clear hgl4 hgrow
      go_loopw [7] (fun i wr => ∃ k : Nat, k ≤ la.length ∧ i = .int .i64 k ∧ ∃ o p', o.length = la.length ∧ Gath wr w3.heap.size (.slice (some ⟨g', 0, none⟩) o.length cap') o ∧ (∀ m ∈ o, m.1.size ≤ 2000) ∧ Rd wr w.heap.size ab m c p' ∧ p' ≤ 101 + k ∧ But w.heap.size w3 wr) (fun i _ => la.length - (intOf i).toNat)
      case atStart => exact ⟨0, Nat.zero_le _, rfl, la, p2 + 1, rfl, hg4, hs4, hr4, by omega, hB4⟩
      case round =>
        obtain ⟨k, hk, rfl, o, p', hol, hg, hos, hrr, hp', hbr⟩ := hrel
        have hzr := hbr.size
        by_cases hlt : k < la.length
        · have hko : k < o.length := by omega
          obtain ⟨c0, c1⟩ := gath_cells hg hko
          have f0 := gath_free hg (k * 2)
          have f1 := gath_free hg (k * 2 + 1)
          have k0 : (0 : Int) ≤ (k : Int) := by omega
          have k1 : (k : Int) < (la.length : Int) := by omega
          have hlk : o[k].1.size ≤ 2000 := hos _ (List.getElem_mem hko)
          have hgl : g' < wr.heap.size := block_lt_of_cell c0
          have HST : Hid (∀ (W : World) (m' : ByteArray × Int) (p'' : Nat), Rd W w.heap.size ab m c p'' → p'' ≤ 101 + (k + 1) → Gath W w3.heap.size (.slice (some ⟨g', 0, none⟩) o.length cap') o → m'.1.size ≤ 2000 → But w.heap.size w3 W →
              ∃ o' p'', o'.length = la.length ∧ Gath ((W.setCell ⟨g', k * 2, none⟩ (.string m'.1)).setCell ⟨g', k * 2 + 1, none⟩ (.int .i64 m'.2)) w3.heap.size (.slice (some ⟨g', 0, none⟩) o'.length cap') o' ∧ (∀ m ∈ o', m.1.size ≤ 2000) ∧ Rd ((W.setCell ⟨g', k * 2, none⟩ (.string m'.1)).setCell ⟨g', k * 2 + 1, none⟩ (.int .i64 m'.2)) w.heap.size ab m c p'' ∧ p'' ≤ 101 + (k + 1) ∧ But w.heap.size w3 ((W.setCell ⟨g', k * 2, none⟩ (.string m'.1)).setCell ⟨g', k * 2 + 1, none⟩ (.int .i64 m'.2))) := by
            intro W m' p'' hW hp'' hG hm hb
            refine ⟨o.set k m', p'', by rw [List.length_set, hol], by rw [List.length_set]; exact gath_set hG m', fun q hmem => ?_, hW.same fun q hq => (Below.heap_setCell _ _ _ _ (by simp only; omega)).trans (Below.heap_setCell _ _ _ _ (by simp only; omega)), hp'', ⟨hb.os, hb.tape, hb.output, by simpa using hb.size, fun q hq hn => ((Below.heap_setCell _ _ _ _ (by simp only; omega)).trans (Below.heap_setCell _ _ _ _ (by simp only; omega))).trans (hb.block q hq hn)⟩⟩
            rcases List.mem_or_eq_of_mem_set hmem with h | h
            · exact hos q h
            · rw [h]; exact hm
          go_wp2_with fail
          have hbx : Below wr.heap.size wr (wr.alloc (.cells #[.string o[k].1, .int .i64 o[k].2] 65)) := (Below.refl _ _).alloc (Nat.le_refl _) _
          have bx0 := box0 wr (.string o[k].1) (.int .i64 o[k].2) 65
          have bx1 := box1 wr (.string o[k].1) (.int .i64 o[k].2) 65
          have fx0 : (wr.alloc (.cells #[.string o[k].1, .int .i64 o[k].2] 65)).frozen? ⟨wr.heap.size, 0, none⟩ = false := by simp [go_sem]
          have fx1 : (wr.alloc (.cells #[.string o[k].1, .int .i64 o[k].2] 65)).frozen? ⟨wr.heap.size, 1, none⟩ = false := by simp [go_sem]
          have hlx := box_lt wr (.cells #[.string o[k].1, .int .i64 o[k].2] 65)
          have hgx := hg.keep hbx
          have hrx := hrr.below hbx
          have hBx : But w.heap.size w3 (wr.alloc (.cells #[.string o[k].1, .int .i64 o[k].2] 65)) := hbr.trans (But.of_below hbx)
          generalize wr.alloc (.cells #[.string o[k].1, .int .i64 o[k].2] 65) = wx at *
          have HSET : Hid (∀ (W4 : World) (q : Nat) (vv : Int), Gath W4 w3.heap.size (.slice (some ⟨g', 0, none⟩) o.length cap') o → Rd W4 w.heap.size ab m c q → But w.heap.size w3 W4 →
              Gath (W4.setCell ⟨wr.heap.size, 1, none⟩ (.int .i64 vv)) w3.heap.size (.slice (some ⟨g', 0, none⟩) o.length cap') o ∧ Rd (W4.setCell ⟨wr.heap.size, 1, none⟩ (.int .i64 vv)) w.heap.size ab m c q ∧ But w.heap.size w3 (W4.setCell ⟨wr.heap.size, 1, none⟩ (.int .i64 vv))) := by
            intro W4 q vv hG hR4 hB
            refine ⟨?_, hR4.same fun q hq => Below.heap_setCell _ _ _ _ (by simp only; omega), ⟨hB.os, hB.tape, hB.output, by simpa using hB.size, fun q hq hn => (Below.heap_setCell _ _ _ _ (by simp only; omega)).trans (hB.block q hq hn)⟩⟩
            obtain ⟨hl, h | ⟨g'', cap'', cur, hv, hgB', hh, r⟩⟩ := hG
            · exact ⟨hl, .inl h⟩
            · have hv' := hv
              simp only [Value.slice.injEq, Option.some.injEq, Addr.mk.injEq, and_true, true_and] at hv'
              exact ⟨hl, .inr ⟨g'', cap'', cur, hv, hgB', (Below.heap_setCell _ _ _ _ (by simp only; omega)).trans hh, r⟩⟩
          clear hg hrr hbr c0 c1 f0 f1 hbx
          refine wp_region_held_drew (S := fun _ => True) (by kernel_rfl) trivial (fun _ => ?_)
          refine wpAnyH_take (i := 0) (v := .pointer (some ⟨wr.heap.size, 1, none⟩)) rfl (by kernel_rfl) (by kernel_rfl) (by kernel_rfl) (fun _ _ _ h => h) (Or.inl ⟨by rfl, ?_⟩) trivial ?_
          · rintro u -
            go_simp
          simp only [Act.put, List.setIfInBounds_toArray]
          refine wpAnyH_take (i := 2) (v := .pointer (some ⟨w.heap.size, 0, none⟩)) rfl (by kernel_rfl) (by kernel_rfl) (by kernel_rfl) (fun _ _ _ h => h) (Or.inl ⟨by rfl, ?_⟩) trivial ?_
          · rintro u -
            go_simp
          simp only [Act.put]
          refine wpAnyH_ready (rs := [1, 3]) (by kernel_rfl) (by simp) ?_
          refine AllReadyH.cons rfl (fun K hK => ?_) (AllReadyH.cons rfl (fun K hK => ?_) AllReadyH.nil)
          · rw [if_pos (by rfl)]
            go_simp
            refine hK.out _ _ trivial (fun _ => ?_)
            clear hK K
            refine wpAnyH_ready (rs := [3]) (by kernel_rfl) (by simp) ?_
            refine AllReadyH.cons rfl (fun K hK => ?_) AllReadyH.nil
            rw [if_pos (by rfl)]
            go_simp
            refine (pick_any _ m c p' ab _ _ (hrx.below (Below.refl _ _).drew) (by omega) (by omega) (by omega)).mono ?_
            rintro e W4 ⟨⟨y, rfl, hy0, hy1⟩, hr4, hb4⟩
            replace hb4 : But w.heap.size wx W4 := (But.of_below (Below.refl _ _).drew).trans hb4
            have by0 := (hb4.cell 0 hlx (by omega)).trans bx0
            have by1 := (hb4.cell 1 hlx (by omega)).trans bx1
            have fy0 : W4.frozen? ⟨wr.heap.size, 0, none⟩ = false := (World.frozen?_of_block (hb4.block wr.heap.size hlx (by omega))).trans fx0
            have fy1 : W4.frozen? ⟨wr.heap.size, 1, none⟩ = false := (World.frozen?_of_block (hb4.block wr.heap.size hlx (by omega))).trans fx1
            refine hK.out _ _ trivial (fun _ => ?_)
            clear hK K
            refine wpAnyH_take (i := 4) (v := .int .i64 (IntKind.i64.wrap (o[k].2 + y))) rfl (by kernel_rfl) (by kernel_rfl) (by kernel_rfl) (fun _ _ _ h => h) (Or.inl ⟨by rfl, ?_⟩) trivial ?_
            · rintro u -
              go_simp
            simp only [Act.put]
            refine wpAnyH_take (i := 5) (v := .pointer (some ⟨wr.heap.size, 1, none⟩)) rfl (by kernel_rfl) (by kernel_rfl) (by kernel_rfl) (fun _ _ _ h => h) (Or.inl ⟨by rfl, ?_⟩) trivial ?_
            · rintro u -
              go_simp
            simp only [Act.put]
            refine wpAnyH_ready (rs := [6]) (by kernel_rfl) (by simp) ?_
            refine AllReadyH.cons rfl (fun K hK => ?_) AllReadyH.nil
            rw [if_pos (by rfl)]
            go_simp
            refine hK.out _ _ trivial (fun _ => ?_)
            clear hK K
            refine wpAnyH_done (by kernel_rfl) ?_ _
            have hg4' := hgx.but hb4 (by omega)
            have hB4' : But w.heap.size w3 W4 := hBx.trans hb4
            obtain ⟨hg5, hr5, hB5⟩ := HSET.out W4 _ (IntKind.i64.wrap (o[k].2 + y)) hg4' hr4 hB4'
            generalize IntKind.i64.wrap (o[k].2 + y) = vv at *
            obtain ⟨d0', d1'⟩ := gath_cells hg5 hko
            have e0' := gath_free hg5 (k * 2)
            have e1' := gath_free hg5 (k * 2 + 1)
            go_wp2_with fail
            exact ⟨⟨k + 1, by omega, by go_num, HST.out _ (o[k].1, vv) _ hr5 (by omega) hg5 hlk hB5⟩, by simp [intOf]; omega⟩
          · rw [if_pos (by rfl)]
            go_simp
            refine (pick_any _ m c p' ab _ _ (hrx.below (Below.refl _ _).drew) (by omega) (by omega) (by omega)).mono ?_
            rintro e W4 ⟨⟨y, rfl, hy0, hy1⟩, hr4, hb4⟩
            replace hb4 : But w.heap.size wx W4 := (But.of_below (Below.refl _ _).drew).trans hb4
            have by0 := (hb4.cell 0 hlx (by omega)).trans bx0
            have by1 := (hb4.cell 1 hlx (by omega)).trans bx1
            have fy0 : W4.frozen? ⟨wr.heap.size, 0, none⟩ = false := (World.frozen?_of_block (hb4.block wr.heap.size hlx (by omega))).trans fx0
            have fy1 : W4.frozen? ⟨wr.heap.size, 1, none⟩ = false := (World.frozen?_of_block (hb4.block wr.heap.size hlx (by omega))).trans fx1
            refine hK.out _ _ trivial (fun _ => ?_)
            clear hK K
            refine wpAnyH_ready (rs := [1]) (by kernel_rfl) (by simp) ?_
            refine AllReadyH.cons rfl (fun K hK => ?_) AllReadyH.nil
            rw [if_pos (by rfl)]
            go_simp
            refine hK.out _ _ trivial (fun _ => ?_)
            clear hK K
            refine wpAnyH_take (i := 4) (v := .int .i64 (IntKind.i64.wrap (o[k].2 + y))) rfl (by kernel_rfl) (by kernel_rfl) (by kernel_rfl) (fun _ _ _ h => h) (Or.inl ⟨by rfl, ?_⟩) trivial ?_
            · rintro u -
              go_simp
            simp only [Act.put]
            refine wpAnyH_take (i := 5) (v := .pointer (some ⟨wr.heap.size, 1, none⟩)) rfl (by kernel_rfl) (by kernel_rfl) (by kernel_rfl) (fun _ _ _ h => h) (Or.inl ⟨by rfl, ?_⟩) trivial ?_
            · rintro u -
              go_simp
            simp only [Act.put]
            refine wpAnyH_ready (rs := [6]) (by kernel_rfl) (by simp) ?_
            refine AllReadyH.cons rfl (fun K hK => ?_) AllReadyH.nil
            rw [if_pos (by rfl)]
            go_simp
            refine hK.out _ _ trivial (fun _ => ?_)
            clear hK K
            refine wpAnyH_done (by kernel_rfl) ?_ _
            have hg4' := hgx.but hb4 (by omega)
            have hB4' : But w.heap.size w3 W4 := hBx.trans hb4
            obtain ⟨hg5, hr5, hB5⟩ := HSET.out W4 _ (IntKind.i64.wrap (o[k].2 + y)) hg4' hr4 hB4'
            generalize IntKind.i64.wrap (o[k].2 + y) = vv at *
            obtain ⟨d0', d1'⟩ := gath_cells hg5 hko
            have e0' := gath_free hg5 (k * 2)
            have e1' := gath_free hg5 (k * 2 + 1)
            go_wp2_with fail
            exact ⟨⟨k + 1, by omega, by go_num, HST.out _ (o[k].1, vv) _ hr5 (by omega) hg5 hlk hB5⟩, by simp [intOf]; omega⟩
        · have HF : Hid (∀ v, v = Value.slice (some ⟨g', 0, none⟩) la.length cap' → (∃ va' la' vb' lb', Ending.returned (.tuple #[.slice (some ⟨g, 0, none⟩) la.length cap, v]) = .returned (.tuple #[va', vb']) ∧ Mks wr w.heap.size va' la' ∧ Mks wr w.heap.size vb' lb') ∧ Below w.heap.size w wr) := by
            rintro v rfl
            refine ⟨⟨_, la, _, o, rfl, (hm3.but hbr (by omega)).lower (by omega), ⟨by rw [← hol]; exact hg.lower (by omega), by omega, hos⟩⟩, hb1.trans ((hb13.trans hbr).below (Nat.le_refl _) (by omega))⟩
          clear hb1 hb13 hbr hrr hm3 hr3 hg hg4 hB4 hr4
          go_wp2_with fail
          exact bodyPost_ret (v := .tuple #[_, _]) (by simp [results, Try.results16, go_sem]) rfl (HF.out _ rfl)
  · have hx' : decide (0 < x) = false := by simp; omega
    go_wp2_with fail
    refine (l6Marks_mks _ m c _ ab _ hr3 (by omega)).mono ?_
    rintro e w4 ⟨⟨vb, lb, p4, rfl, hm4, hl4, hr4, hp4⟩, hb4⟩
    have HF : Hid ((∃ va' la' vb' lb', Ending.returned (.tuple #[va, vb]) = .returned (.tuple #[va', vb']) ∧ Mks w4 w.heap.size va' la' ∧ Mks w4 w.heap.size vb' lb') ∧ Below w.heap.size w w4) :=
      ⟨⟨va, la, vb, lb, rfl, (hm3.but hb4 hR).lower (by omega), hm4.lower (by omega)⟩, hb1.trans ((hb13.trans hb4).below (Nat.le_refl _) (by omega))⟩
    clear hb1 hb13 hb4 hr3 hr4 hm3 hm4
    go_wp2_with fail
    exact bodyPost_ret (v := .tuple #[va, vb]) (by simp [results, Try.results16, go_sem]) rfl HF.out

end Go.Proofs.Ytpfhegengmlkmaa
