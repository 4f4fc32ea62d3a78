/- Texts of this claim, one behind the other. -/
import Derived.Test.YtpfhegengmlkmacGreatDoorSide
import Derived.Test.YtpfhegengmlkmacGreatDoorLat
import Derived.OrdersHeld
import Derived.OrdersIn
import Derived.TacticsIn
import Derived.RangeFuncCalls
import Derived.Test.YtpfhegengmlkmacGreatDoorWf
import Derived.Test.YtpfhegengmlkmacGreatDoorSpecAO
import Derived.Test.YtpfhegengmlkmacGreatDoorWinI
import Derived.Test.YtpfhegengmlkmacGreatDoorWinM
import Derived.Test.YtpfhegengmlkmacGreatDoorWinS
/- The iterator sideBySide, walked. -/
namespace Go.Proofs.YtpfhegengmlkmacGreatDoor
open Go.RowKit Go.Shelf Go.BigFrame
attribute [local go_sem] Oper.semAt_some

/-- The two marks that are handed to the loop's body. -/
def encP (x : PM) : Array Value := #[.agg #[.string x.p.1.1, .int .i64 x.p.1.2], .agg #[.string x.p.2.1, .int .i64 x.p.2.2]]

theorem grown_of_below {A B : World} (h : Below A.heap.size A B) : A.grownBy B none := ⟨h.os, h.tape, h.output, h.size, fun k hk _ => h.block k hk⟩

theorem side_len {a b a' b' : List (ByteArray × Int)} {pre : List PM} {n f : Nat} {p : (ByteArray × Int) × (ByteArray × Int)} (h : pairsF n a b = pre.map PM.p ++ pairsF f a' b') (hp : headP a' b' = some p) (hf : 0 < f) : pre.length < n := by
  have h1 := pairs_length n a b
  rw [h] at h1
  obtain ⟨g, rfl⟩ : ∃ g, f = g + 1 := ⟨f - 1, by omega⟩
  simp only [pairsF, hp, List.length_append, List.length_map, List.length_cons] at h1
  omega

theorem side_pre {a b a' b' : List (ByteArray × Int)} {pre : List PM} {n f : Nat} {x : PM} (h : pairsF n a b = pre.map PM.p ++ pairsF f a' b') (hp : headP a' b' = some x.p) (hf : 0 < f) : (pre ++ [x]).map PM.p <+: pairsF n a b := by
  obtain ⟨g, rfl⟩ : ∃ g, f = g + 1 := ⟨f - 1, by omega⟩
  rw [h]
  simp only [pairsF, hp, List.map_append, List.map_cons, List.map_nil]
  refine ⟨pairsF g (if 0 < x.p.1.2 then a'.tail else a') (if 0 < x.p.2.2 then b'.tail else b'), ?_⟩
  simp

theorem side_next {a b : List (ByteArray × Int)} {pre : List PM} {n f i j : Nat} {x : PM} (h : pairsF n a b = pre.map PM.p ++ pairsF f (a.drop i) (b.drop j)) (hp : headP (a.drop i) (b.drop j) = some x.p) (hf : 0 < f) :
    pairsF n a b = (pre ++ [x]).map PM.p ++ pairsF (f - 1) (if 0 < x.p.1.2 then a.drop (i + 1) else a.drop i) (if 0 < x.p.2.2 then b.drop (j + 1) else b.drop j) := by
  obtain ⟨g, rfl⟩ : ∃ g, f = g + 1 := ⟨f - 1, by omega⟩
  rw [h]
  simp only [pairsF, hp, List.map_append, List.map_cons, List.map_nil, List.tail_drop]
  simp

set_option maxRecDepth 100000 in
set_option maxHeartbeats 6000000 in
theorem side1_in (n : Nat) (l Ba Bb lo hi : Nat) (aa ab : Option Addr) (ca cb : Nat) (la lb : List (ByteArray × Int)) (hca : la.length ≤ ca) (hcb : lb.length ≤ cb) (hma : la.length ≤ 12) (hmb : lb.length ≤ 12) (hsa : ∀ m ∈ la, m.1.size ≤ 1048576) (hsb : ∀ m ∈ lb, m.1.size ≤ 1048576) (hva : ∀ m ∈ la, 1 ≤ m.2) (hvb : ∀ m ∈ lb, 1 ≤ m.2)
    (hBa : hi ≤ Ba) (hBb : hi ≤ Bb) (J Jx : List PM → World → Prop) (W : World) (hWl : lo ≤ W.heap.size) (hJ : AbidesFrom W.heap.size J)
    (hY : ∀ pre x W, J pre W → pre.length < la.length + lb.length → YieldAt Fence.wide (n - 1) Tryz.prog l (encP x) W fun e W' =>
      (e = .returned (.bool true) ∧ J (pre ++ [x]) W' ∧ KS lo hi W W') ∨ (e = .returned (.bool false) ∧ Jx (pre ++ [x]) W'))
    (cA : W.cell? ⟨Ba, 0, none⟩ = some (.slice aa la.length ca)) (cB : W.cell? ⟨Bb, 0, none⟩ = some (.slice ab lb.length cb)) (nA3 : W.cell? ⟨Ba, 3, none⟩ = none) (nB3 : W.cell? ⟨Bb, 3, none⟩ = none) (hra : RowL lo W aa la) (hrb : RowL lo W ab lb) (h0 : J [] W) :
    CallsIn Fence.wide n Tryz.prog 177 #[.func (.yield l) #[] #[], .pointer (some ⟨Ba, 0, none⟩), .pointer (some ⟨Bb, 0, none⟩)] W fun e W' => (∃ v, e = .returned v) ∧
      ((∃ ys, ys.map PM.p = pairsF (la.length + lb.length) la lb ∧ J ys W') ∨ (∃ pre, pre.map PM.p <+: pairsF (la.length + lb.length) la lb ∧ Jx pre W')) := by
  refine callsIn_of_wp Tryz.func177 rfl trivial ?_ rfl
  simp only [Tryz.ntmps177, List.size_toArray, List.length_cons, List.length_nil, Nat.reduceAdd, Nat.reduceSub, Array.replicate_succ, Array.replicate_zero, List.push_toArray, List.append_toArray, List.nil_append, List.cons_append]
  gi_wp2
  gi_loopw [4, 5] (fun i j wr => ∃ (iN jN f : Nat) (pre : List PM), iN ≤ la.length ∧ jN ≤ lb.length ∧ i = .int .i64 iN ∧ j = .int .i64 jN ∧ Hid (pairsF (la.length + lb.length) la lb = pre.map PM.p ++ pairsF f (la.drop iN) (lb.drop jN)) ∧ (la.length - iN) + (lb.length - jN) ≤ f ∧ J pre wr ∧ KS lo hi W wr)
    (fun i j _ => (la.length - (intOf i).toNat) + (lb.length - (intOf j).toNat))
  case atStart => exact ⟨0, 0, la.length + lb.length, [], Nat.zero_le _, Nat.zero_le _, rfl, rfl, rfl, by omega, h0, KS.refl _ _ _⟩
  case round =>
    obtain ⟨iN, jN, f, pre, hiN, hjN, rfl, rfl, HP, hf, hJs, hks⟩ := hrel
    have cA' := hks.cell (.inr ⟨hBa, nA3⟩) cA
    have cB' := hks.cell (.inr ⟨hBb, nB3⟩) cB
    clear nA3 nB3
    by_cases hend : la.length - iN + (lb.length - jN) = 0
    · have HD : Hid (pre.map PM.p = pairsF (la.length + lb.length) la lb) := by
        have h1 : la.drop iN = [] := List.drop_of_length_le (by omega)
        have h2 : lb.drop jN = [] := List.drop_of_length_le (by omega)
        have := HP.out
        rw [h1, h2] at this
        rw [this]
        cases f <;> simp [pairsF, headP, Hid]
      clear HP
      gi_wp2
      go_end0
      exact ⟨⟨_, rfl⟩, .inl ⟨pre, HD.out, hJs⟩⟩
    · obtain ⟨p, hp⟩ := headP_some (a := la.drop iN) (b := lb.drop jN) (by rw [List.length_drop, List.length_drop]; omega)
      obtain ⟨aa', hsla, hrowa⟩ := slice_rest aa ca iN la hiN hca
      obtain ⟨ab', hslb, hrowb⟩ := slice_rest ab cb jN lb hjN hcb
      have hWr : lo ≤ wr.heap.size := Nat.le_trans hWl hks.size
      have ltA : Ba < wr.heap.size := block_lt_of_cell cA'
      have ltB : Bb < wr.heap.size := block_lt_of_cell cB'
      have hRA : ∀ X, Below wr.heap.size wr X → Row X aa' (la.drop iN) := fun X hX => hrowa X ((hks.row hra hWr).below hX)
      have hRB : ∀ X, Below wr.heap.size wr X → Row X ab' (lb.drop jN) := fun X hX => hrowb X ((hks.row hrb hWr).below hX)
      have keep3 : ∀ X, Below wr.heap.size wr X → X.cell? ⟨Ba, 0, none⟩ = some (.slice aa la.length ca) ∧ X.cell? ⟨Bb, 0, none⟩ = some (.slice ab lb.length cb) ∧ Below wr.heap.size wr X := fun X hX => ⟨cell_on hX ltA cA', cell_on hX ltB cB', hX⟩
      have HH : Hid (headP (la.drop iN) (lb.drop jN) = some p) := hp
      have HA : Hid (∀ X, Below wr.heap.size wr X → Calls Tryz.prog 178 #[.slice aa' (la.length - iN) (ca - iN), .slice ab' (lb.length - jN) (cb - jN)] X fun e w1 => e = .returned (.tuple #[.agg #[.string p.1.1, .int .i64 p.1.2], .agg #[.string p.2.1, .int .i64 p.2.2]]) ∧ Below X.heap.size X w1 ∧ Below wr.heap.size wr w1 ∧ w1.cell? ⟨Ba, 0, none⟩ = some (.slice aa la.length ca) ∧ w1.cell? ⟨Bb, 0, none⟩ = some (.slice ab lb.length cb)) := fun X hX =>
        (first_len aa' ab' (ca - iN) (cb - jN) _ _ (la.drop iN) (lb.drop jN) (by simp) (by simp) X (hRA X hX) (hRB X hX) p hp).mono fun e w1 ⟨he, hb1⟩ => by
          have hbw := hX.trans (hb1.mono hX.size)
          exact ⟨he, hb1, hbw, (keep3 w1 hbw).1, (keep3 w1 hbw).2.1⟩
      have b0 : Below wr.heap.size wr wr.drew := (Below.refl _ _).drew
      have b1 : Below wr.heap.size wr (wr.alloc (.cells #[.string ⟨#[]⟩, .int .i64 0] 144)).drew := ((Below.refl _ _).alloc (Nat.le_refl _) _).drew
      have b2 : Below wr.heap.size wr ((wr.alloc (.cells #[.string ⟨#[]⟩, .int .i64 0] 144)).alloc (.cells #[.string ⟨#[]⟩, .int .i64 0] 144)).drew := (((Below.refl _ _).alloc (Nat.le_refl _) _).alloc (by simp) _).drew
      clear hRA hRB keep3 hp hrowa hrowb
      have hpos := headP_pos (fun m hm => hva m (List.mem_of_mem_drop hm)) (fun m hm => hvb m (List.mem_of_mem_drop hm)) HH.out
      rw [List.length_drop, List.length_drop] at hpos
      obtain ⟨hp1, hp2, hp3⟩ := hpos
      rcases (by omega : iN < la.length ∨ (¬ iN < la.length ∧ jN < lb.length)) with hi1 | ⟨hi1, hj1⟩
      all_goals
        gi_wp2
        refine wpIn_mono (Q := fun e a' w' => e = .normal ∧ ∃ (bx bz : Nat) (v8 v9 v10 v11 v12 v13 v14 v15 v16 v17 v18 v19 v20 v21 v22 v23 v24 v25 v26 v27 : Value), a' = { tmps := #[.func (.yield l) #[] #[], .pointer (some ⟨Ba, 0, none⟩), .pointer (some ⟨Bb, 0, none⟩), undef, .int .i64 (iN : Int), .int .i64 (jN : Int), .pointer (some ⟨bx, 0, none⟩), .pointer (some ⟨bz, 0, none⟩), v8, v9, v10, v11, v12, v13, v14, v15, v16, v17, v18, v19, v20, v21, v22, v23, v24, v25, v26, v27, u28, u29, u30, u31, u32, u33, u34, u35, u36, u37, u38, u39, u40], defers := [] } ∧ wr.heap.size ≤ bx ∧ wr.heap.size ≤ bz ∧ Below wr.heap.size wr w' ∧ w'.cell? ⟨bx, 0, none⟩ = some (.string p.1.1) ∧ w'.cell? ⟨bx, 1, none⟩ = some (.int .i64 p.1.2) ∧ w'.cell? ⟨bz, 0, none⟩ = some (.string p.2.1) ∧ w'.cell? ⟨bz, 1, none⟩ = some (.int .i64 p.2.2) ∧ w'.cell? ⟨bx, 3, none⟩ = none ∧ w'.cell? ⟨bz, 3, none⟩ = none) (wpIn_wide.2 ?_) ?_
        · rename_i Qo Qi K0 k0
          clear k0 K0 Qi Qo hY hJ h0 hra hrb hks hsa hsb HP hJs hf hend hWr hi1 hma hmb hca hcb hBa hBb cA cB hWl hva hvb hp1 hp2 hp3 HH
          have nA := World.new_ne wr _ cA'
          have nB := World.new_ne wr _ cB'
          have nA0 : Ba ≠ wr.heap.size := by omega
          have nA1 : Ba ≠ wr.heap.size + 1 := by omega
          have nB0 : Bb ≠ wr.heap.size := by omega
          have nB1 : Bb ≠ wr.heap.size + 1 := by omega
          go_region_held3 (fun w' => w'.cell? ⟨Ba, 0, none⟩ = some (.slice aa la.length ca) ∧ w'.cell? ⟨Bb, 0, none⟩ = some (.slice ab lb.length cb)) (first | (simp only [far_set _ _ nA0, far_set _ _ nA1, far_set _ _ nB0, far_set _ _ nB1, q0, q1, and_self]; done) | go_keep)
            (first | (go_at_call 178; refine (HA.out _ b0).mono ?_; rintro e w1 ⟨rfl, hb1, hbw1, q0, q1⟩; obtain ⟨hcc1, hff1⟩ := bcell hb1; have hz0 := hb1.size; simp at hz0; have nwA : Ba ≠ w1.heap.size := (by omega); have nwB : Bb ≠ w1.heap.size := (by omega)) | (go_at_call 178; refine (HA.out _ b1).mono ?_; rintro e w1 ⟨rfl, hb1, hbw1, q0, q1⟩; obtain ⟨hcc1, hff1⟩ := bcell hb1; have hz0 := hb1.size; simp at hz0; have nwA : Ba ≠ w1.heap.size := (by omega); have nwB : Bb ≠ w1.heap.size := (by omega); have hz1 : wr.heap.size < w1.heap.size := (by omega)) | (go_at_call 178; refine (HA.out _ b2).mono ?_; rintro e w1 ⟨rfl, hb1, hbw1, q0, q1⟩; obtain ⟨hcc1, hff1⟩ := bcell hb1; have hz0 := hb1.size; simp at hz0; have nwA : Ba ≠ w1.heap.size := (by omega); have nwB : Bb ≠ w1.heap.size := (by omega); have hz1 : wr.heap.size < w1.heap.size := (by omega); have hz2 : wr.heap.size + 1 < w1.heap.size := (by omega); obtain ⟨bb0, bb1⟩ := box4 (by simp) hb1))
          all_goals refine ⟨rfl, _, _, _, _, _, _, _, _, _, _, _, _, _, _, _, _, _, _, _, _, _, _, rfl, ?_, ?_, ?_, ?_, ?_, ?_, ?_, ?_, ?_⟩
          all_goals first | omega | (go_simp; done) | ((repeat' (first | exact hbw1 | refine Below.alloc ?_ ?_ _ | refine Below.setCell ?_ ?_ _)) <;> (first | omega | (simp; omega) | (simp; done)))
        · rintro e a' w' ⟨rfl, bx, bz, v8, v9, v10, v11, v12, v13, v14, v15, v16, v17, v18, v19, v20, v21, v22, v23, v24, v25, v26, v27, rfl, lbx, lbz, hbel, x0, x1, z0, z1, x3, z3⟩
          have hJ' : J pre w' := hJ _ _ _ none hJs (grown_of_below hbel) (fun r e => by cases e)
          have hps := headP_size (fun m hm => hsa m (List.mem_of_mem_drop hm)) (fun m hm => hsb m (List.mem_of_mem_drop hm)) HH.out
          have hlen : pre.length < la.length + lb.length := side_len HP.out HH.out (by omega)
          obtain ⟨fn, tmps, assign, body, hy, hR⟩ := hY pre ⟨p, hps⟩ w' hJ' hlen
          dsimp only [encP] at hy
          gi_wp2
          refine ⟨fun h => (by cases h), hR.mono ?_⟩
          rintro e W3 (⟨rfl, hJ3, hk3⟩ | ⟨rfl, hJx3⟩)
          · have y0 := hk3.cell (.inr ⟨by omega, x3⟩) x0
            have y1 := hk3.cell (.inr ⟨by omega, x3⟩) x1
            have t0 := hk3.cell (.inr ⟨by omega, z3⟩) z0
            have t1 := hk3.cell (.inr ⟨by omega, z3⟩) z1
            clear hR hy x0 x1 z0 z1 hY
            have hJ5 : ∀ X, Below W3.heap.size W3 X → J (pre ++ [⟨p, hps⟩]) X := fun X hX => hJ _ _ _ none hJ3 (grown_of_below hX) (fun r e => by cases e)
            have HJ5 : Hid (∀ X, Below W3.heap.size W3 X → J (pre ++ [⟨p, hps⟩]) X) := hJ5
            have HN : Hid (pairsF (la.length + lb.length) la lb = (pre ++ [(⟨p, hps⟩ : PM)]).map PM.p ++ pairsF (f - 1) (if 0 < p.1.2 then la.drop (iN + 1) else la.drop iN) (if 0 < p.2.2 then lb.drop (jN + 1) else lb.drop jN)) := side_next HP.out HH.out (by omega)
            have hks3 : KS lo hi W W3 := (hks.trans (KS.of_below hbel)).trans hk3
            clear hJ hJ3 hJ5 HP HH hk3 hks hJ' hJs
            gi_wp2_with fail
            refine ⟨trivial, fun h => (by cases h), (callsIn_wide.2 (had_any _ _ _)).mono ?_⟩
            rintro e w4 ⟨rfl, hb4⟩
            have s0 := cell_on hb4 (block_lt_of_cell t0) t0
            have s1 := cell_on hb4 (block_lt_of_cell t1) t1
            by_cases c1 : 0 < p.1.2
            all_goals
              gi_wp2_with fail
              refine ⟨trivial, fun h => (by cases h), (callsIn_wide.2 (had_any _ _ _)).mono ?_⟩
              rintro e w5 ⟨rfl, hb5⟩
              have hb45 : Below W3.heap.size W3 w5 := hb4.trans (hb5.mono hb4.size)
              by_cases c2 : 0 < p.2.2
            · have HN' : Hid (pairsF (la.length + lb.length) la lb = (pre ++ [(⟨p, hps⟩ : PM)]).map PM.p ++ pairsF (f - 1) (la.drop (iN + 1)) (lb.drop (jN + 1))) := by have := HN.out; rwa [if_pos c1, if_pos c2] at this
              gi_wp2_with fail
              all_goals exact ⟨⟨iN + 1, jN + 1, f - 1, pre ++ [⟨p, hps⟩], by omega, by omega, by go_num, by go_num, HN', by omega, HJ5.out _ hb45, hks3.trans (KS.of_below hb45)⟩, by simp [intOf]; omega⟩
            · have HN' : Hid (pairsF (la.length + lb.length) la lb = (pre ++ [(⟨p, hps⟩ : PM)]).map PM.p ++ pairsF (f - 1) (la.drop (iN + 1)) (lb.drop jN)) := by have := HN.out; rwa [if_pos c1, if_neg (by omega)] at this
              gi_wp2_with fail
              all_goals exact ⟨⟨iN + 1, jN, f - 1, pre ++ [⟨p, hps⟩], by omega, by omega, by go_num, rfl, HN', by omega, HJ5.out _ hb45, hks3.trans (KS.of_below hb45)⟩, by simp [intOf]; omega⟩
            · have HN' : Hid (pairsF (la.length + lb.length) la lb = (pre ++ [(⟨p, hps⟩ : PM)]).map PM.p ++ pairsF (f - 1) (la.drop iN) (lb.drop (jN + 1))) := by have := HN.out; rwa [if_neg (by omega), if_pos c2] at this
              gi_wp2_with fail
              all_goals exact ⟨⟨iN, jN + 1, f - 1, pre ++ [⟨p, hps⟩], by omega, by omega, rfl, by go_num, HN', by omega, HJ5.out _ hb45, hks3.trans (KS.of_below hb45)⟩, by simp [intOf]; omega⟩
            · exact absurd hp3 (by omega)
          · gi_wp2
            refine bodyPost_ret (results_none rfl _ _ _) rfl ?_
            exact ⟨⟨_, rfl⟩, .inr ⟨pre ++ [⟨p, hps⟩], side_pre HP.out HH.out (by omega), hJx3⟩⟩

end Go.Proofs.YtpfhegengmlkmacGreatDoor
/- The iterator's contract in the form that a loop over it takes. -/
namespace Go.Proofs.YtpfhegengmlkmacGreatDoor
open Go.RowKit Go.Shelf Go.BigFrame
attribute [local go_sem] Oper.semAt_some

set_option maxHeartbeats 400000 in
theorem sideBySide_any (aa ab : Option Addr) (na nb ca cb : Nat) (w : World) :
    Calls Tryz.prog 143 #[.slice aa na ca, .slice ab nb cb] w fun e w' => e = .returned (.func (.func 177) #[] #[.pointer (some ⟨w.heap.size, 0, none⟩), .pointer (some ⟨w.heap.size + 1, 0, none⟩)]) ∧
      w' = (w.alloc (.cells #[.slice aa na ca] 34)).alloc (.cells #[.slice ab nb cb] 34) := by
  go_enter Tryz.func143, Tryz.ntmps143
  go_wp2
  go_ret
  exact ⟨rfl, rfl⟩

theorem side_stops (n lo hi Ba Bb : Nat) (aa ab : Option Addr) (ca cb : Nat) (la lb : List (ByteArray × Int)) (hca : la.length ≤ ca) (hcb : lb.length ≤ cb) (hpa : StampP la) (hpb : StampP lb) (hBa : hi ≤ Ba) (hBb : hi ≤ Bb) (w : World) (hlo : lo ≤ w.heap.size)
    (cA : w.cell? ⟨Ba, 0, none⟩ = some (.slice aa la.length ca)) (cB : w.cell? ⟨Bb, 0, none⟩ = some (.slice ab lb.length cb)) (nA3 : w.cell? ⟨Ba, 3, none⟩ = none) (nB3 : w.cell? ⟨Bb, 3, none⟩ = none) (hra : RowL lo w aa la) (hrb : RowL lo w ab lb) :
    SeqStopsK Fence.wide n Tryz.prog 177 #[.pointer (some ⟨Ba, 0, none⟩), .pointer (some ⟨Bb, 0, none⟩)] encP (KS lo hi) (fun ys => ys.map PM.p = pairsF (la.length + lb.length) la lb) (fun pre => pre.map PM.p <+: pairsF (la.length + lb.length) la lb) (la.length + lb.length) w :=
  fun l J Jx W hW hJ _ hY h0 =>
    side1_in n l Ba Bb lo hi aa ab ca cb la lb hca hcb hpa.1 hpb.1 (name_sizes hpa) (name_sizes hpb) (stamp_sorted hpa).2 (stamp_sorted hpb).2 hBa hBb J Jx W (Nat.le_trans hlo hW.size) hJ hY
      (cell_on hW (block_lt_of_cell cA) cA) (cell_on hW (block_lt_of_cell cB) cB) ((hW.cell (p := ⟨Ba, 3, none⟩) (lt_of cA)).trans nA3) ((hW.cell (p := ⟨Bb, 3, none⟩) (lt_of cB)).trans nB3) (hra.below (hW.mono hlo)) (hrb.below (hW.mono hlo)) h0
where
  lt_of {B : Nat} {v : Value} (h : w.cell? ⟨B, 0, none⟩ = some v) : B < w.heap.size := block_lt_of_cell h
  name_sizes {l : List (ByteArray × Int)} (h : StampP l) : ∀ m ∈ l, m.1.size ≤ 1048576 := fun m hm => by
    obtain ⟨j, hj, rfl⟩ := List.mem_iff_getElem.1 hm
    have := (h.2.1 j hj).1.2.1
    omega

end Go.Proofs.YtpfhegengmlkmacGreatDoor
/- A region that draws its order, in a round of a range over a function: as everywhere, where it defers nothing. -/
namespace Go.Proofs.YtpfhegengmlkmacGreatDoor
open Go.RowKit

theorem oper_round {P : Program} {o : Oper} {a : Act} {w : World} {K : Act → World → Prop} {Q : Exit → Act → World → Prop} {l n : Nat} (nd : ∀ c, o.op ≠ .defer c) (h : o.wp P a w K Q) : o.wpIn (Fence.wide.inRound l) n P a w K Q := by
  refine ⟨fun f _ => trivial, ?_⟩
  show o.uponIn _ n P a K Q ((o.semAt (some l) a.eval).run P w)
  rw [Oper.semAt_some l _ _ nd]
  unfold Oper.wp at h
  generalize (execOp a.eval o).run P w = r at *
  cases r with
  | ok x w' =>
    cases x <;> simp only [Oper.upon] at h <;> simp only [Oper.uponIn]
    case value => exact h
    case skip => exact h
    case defer => exact h
    case enter f args => exact ⟨fun h => (by cases h), CallsIn.inRound l (callsIn_wide.2 h)⟩
    case row row args => exact ⟨fun h => (by cases h), fun c cs _ => let ⟨v, w', r, s⟩ := h c cs; ⟨v, w', r, stepsIn_wide.2 s⟩⟩
  | halt x w' => cases x <;> simp only [Oper.upon] at h <;> simp only [Oper.uponIn] <;> exact h

/-- No operation defers a call. -/
def noDef (ops : Array Oper) : Bool := ops.all fun o => match o.op with | .defer _ => false | _ => true
theorem noDef_spec {ops : Array Oper} (h : noDef ops = true) {i : Nat} {o : Oper} (ho : ops[i]? = some o) : ∀ c, o.op ≠ .defer c := by
  intro c hc
  obtain ⟨hi, rfl⟩ := Array.getElem?_eq_some_iff.1 ho
  have := Array.all_eq_true.1 h i hi
  simp [hc] at this

theorem op_round {P : Program} {ops : Array Oper} {Q : Exit → Act → World → Prop} {K K' : Act → World → Prop} {i l n : Nat} {a : Act} {w : World} (nd : noDef ops = true) (hlo : ¬ LetsOut Q) (hk : ∀ a w, K a w → K' a w) (h : wpOp P ops Q i K a w) : wpOpIn (Fence.wide.inRound l) n P ops Q i K' a w := by
  unfold wpOp at h
  unfold wpOpIn
  split
  · rename_i ho; simp only [ho] at h; exact hk _ _ h
  · rename_i o ho
    simp only [ho] at h
    split
    · rename_i hw
      simp only [hw, if_true] at h
      rcases h with h | ⟨_, h⟩
      · exact Oper.wpIn_mono hk (oper_round (noDef_spec nd ho) h)
      · exact absurd h hlo
    · rename_i hw; simp only [hw] at h; exact ⟨fun f _ => trivial, hk _ _ h⟩

theorem any_round {P : Program} {md : Region.Mode} {ops : Array Oper} {Q : Exit → Act → World → Prop} {l n : Nat} (nd : noDef ops = true) (hlo : ¬ LetsOut Q) : ∀ (fuel : Nat) (listed : Array Bool) (a : Act) (w : World), wpAny P md ops Q fuel listed a w → wpAnyIn (Fence.wide.inRound l) n P md ops Q fuel listed a w
  | 0, _, _, _, h => h
  | fuel + 1, _, _, _, h => ⟨h.1, fun i hi => op_round nd hlo (fun a' w' => any_round nd hlo fuel _ a' w') (h.2 i hi)⟩

/-- Loads are taken first under S; the rest comes up one by one. -/
theorem wpIn_region_heldR {P : Program} {ops : Array Oper} {Q : Exit → Act → World → Prop} {S : World → Prop} {l n id : Nat} {a : Act} {w : World} (hm : P.follows .mixedOrders = true) (nd : noDef ops = true) (hlo : ¬ LetsOut Q)
    (h : wpAnyH P .any ops Q S ops.size (Array.replicate ops.size false) a w.drew) : (Code.region id ops true).wpIn (Fence.wide.inRound l) n P Q a w :=
  wpIn_region_any hm (any_round nd hlo _ _ _ _ (wpAny_of_held _ _ _ _ h))

/-- Operations that only read, callees that make new memory and turn none: one walk in the order of the text. -/
theorem wpIn_region_latR {P : Program} {Q : Exit → Act → World → Prop} {l n id : Nat} {a : Act} {w : World} {os : List Oper} (hm : P.follows .mixedOrders = true) (hB : Region.lexB .any os.toArray = true) (nd : noDef os.toArray = true) (hlo : ¬ LetsOut Q)
    (h : wpQuiet P os.toArray (fun w' => ∃ n : Lat w, w' = n.w) (fun a' => ∀ w', (∃ n : Lat w, w' = n.w) → Q .normal a' w') os a) : (Code.region id os.toArray true).wpIn (Fence.wide.inRound l) n P Q a w := by
  simp only [Region.lexB, Bool.and_eq_true] at hB
  refine wpIn_region_any hm (any_round nd hlo _ _ _ _ (wpAny_of_quiet (C := fun w' => ∃ n : Lat w, w' = n.w) (Q := fun a' => ∀ w', (∃ n : Lat w, w' = n.w) → Q .normal a' w') (fun _ w' hw' h => h w' hw') _ _ _ _ ⟨⟨w.drew, (Below.refl _ _).drew⟩, rfl⟩ ?_))
  have := wpAnyQ_lex (C := fun w' => ∃ n : Lat w, w' = n.w) (md := .any) hB.1 os.toArray.toList 0 (Array.replicate os.toArray.size false) a (by simp) (by simpa using hB.2) (by simpa using h)
  simpa using this

end Go.Proofs.YtpfhegengmlkmacGreatDoor
/- The walk of impl.StampAgree. -/
namespace Go.Proofs.YtpfhegengmlkmacGreatDoor
open Go.RowKit Go.Shelf Go.BigFrame
attribute [local go_sem] Oper.semAt_some

/-- A pair that does not agree. -/
def Bad (x : (ByteArray × Int) × (ByteArray × Int)) : Prop := 0 < x.1.2 ∧ 0 < x.2.2 ∧ x.1 ≠ x.2

theorem agree_of_good {a b : List (ByteArray × Int)} {P : List ((ByteArray × Int) × (ByteArray × Int))} (ha : StampP a) (hb : StampP b) (hP : PSpec a b P) (h : ∀ p ∈ P, ¬ Bad p) : AgreeP a b := by
  refine ⟨ha, hb, fun i hi => ?_⟩
  have sa := stamp_sorted ha
  have sb := stamp_sorted hb
  have e1 : getM a a[i].1 = a[i].2 := getM_mem sa (List.getElem_mem hi)
  have e2 := sa.2 _ (List.getElem_mem hi)
  have e3 := getM_nonneg (s := a[i].1) sb
  by_cases h0 : getM b a[i].1 = 0
  · exact .inl h0
  obtain ⟨p, hm, hp⟩ := hP.all a[i].1 (.inl (by omega))
  obtain ⟨p1, p2, _⟩ := hP.mem p hm
  rw [hp] at p1 p2
  right
  by_cases hq : p.1 = p.2
  · rw [p1, p2] at hq
    have := (Prod.mk.inj hq).2
    omega
  · exact absurd ⟨by rw [p1]; simp only; omega, by rw [p2]; simp only; omega, hq⟩ (h p hm)
theorem not_agree_of_bad {a b : List (ByteArray × Int)} {P : List ((ByteArray × Int) × (ByteArray × Int))} (hP : PSpec a b P) {p : (ByteArray × Int) × (ByteArray × Int)} (hm : p ∈ P) (h : Bad p) : ¬ AgreeP a b := by
  rintro ⟨ha, hb, hall⟩
  obtain ⟨p1, p2, _⟩ := hP.mem p hm
  obtain ⟨h1, h2, h3⟩ := h
  rw [p1] at h1
  rw [p2] at h2
  simp only at h1 h2
  have hmem := getM_pos h1
  obtain ⟨i, hi, e⟩ := List.mem_iff_getElem.1 hmem
  have := hall i hi
  rw [e] at this
  simp only at this
  rcases this with h | h
  · omega
  · exact h3 (by rw [p1, p2, h])

theorem had_true (s : ByteArray) (v : Int) (w : World) (h : 0 < v) : Calls Tryz.prog 179 #[.agg #[.string s, .int .i64 v]] w fun e w' => e = .returned (.bool true) ∧ Below w.heap.size w w' :=
  (had_any s v w).mono fun e w' ⟨h1, h2⟩ => ⟨by rw [h1, decide_eq_true h], h2⟩
theorem had_false (s : ByteArray) (v : Int) (w : World) (h : ¬ 0 < v) : Calls Tryz.prog 179 #[.agg #[.string s, .int .i64 v]] w fun e w' => e = .returned (.bool false) ∧ Below w.heap.size w w' :=
  (had_any s v w).mono fun e w' ⟨h1, h2⟩ => ⟨by rw [h1, decide_eq_false h], h2⟩
theorem keepsFrom_below (B : Nat) {W W' : World} (h : Below W.heap.size W W') : KeepsFrom B W W' := ⟨h.size, fun k _ _ hk _ => (h.block k (Array.getElem?_eq_some_iff.1 hk).1).trans hk⟩

end Go.Proofs.YtpfhegengmlkmacGreatDoor
/- Walks: (Item).ok, sameSources. -/
namespace Go.Proofs.YtpfhegengmlkmacGreatDoor
open Go.RowKit Go.Shelf Go.BigFrame
attribute [local go_sem] Oper.semAt_some

set_option maxHeartbeats 400000 in
theorem itemOk_any (x : Int) (a : Option Addr) (c : Nat) (l : List (ByteArray × Int)) (w : World) (hr : Row w a l) (hf : FitM l) :
    Calls Tryz.prog 128 #[.agg #[.int .i64 x, .slice a l.length c]] w fun e w' => IsB (StampP l ∧ l ≠ []) e ∧ Below w.heap.size w w' := by
  have hb0 : Below w.heap.size w (w.alloc (.cells #[.int .i64 x, .slice a l.length c] 44)) := (Below.refl _ _).alloc (Nat.le_refl _) _
  have hl := hf.1
  unfold maxLen at hl
  by_cases h0 : 0 < l.length
  · have HN : Hid (l ≠ []) := fun h => by rw [h] at h0; exact absurd h0 (Nat.lt_irrefl 0)
    go_enter Tryz.func128, Tryz.ntmps128
    go_wp2_with fail
    refine (implStampOk_any a c l _ hf.1 (hr.below hb0) hf.2).mono ?_
    rintro e w1 ⟨⟨r, rfl, hr1⟩, b1⟩
    have HR : Hid (r = true ↔ StampP l) := hr1
    clear hr1
    go_wp2_with fail
    go_ret
    exact ⟨⟨r, rfl, by rw [HR.out]; exact ⟨fun h => ⟨h, HN.out⟩, fun h => h.1⟩⟩, hb0.trans (b1.mono hb0.size)⟩
  · obtain rfl : l = [] := List.length_eq_zero_iff.1 (by omega)
    go_enter Tryz.func128, Tryz.ntmps128
    go_wp2_with fail
    go_ret
    exact ⟨isB_false (fun h => h.2 rfl), hb0⟩

/-- All versions 1. -/
def ones (l : List (ByteArray × Int)) : List (ByteArray × Int) := l.map fun m => (m.1, 1)
theorem ones_sorted {l : List (ByteArray × Int)} (h : Sorted l) : Sorted (ones l) := by
  refine ⟨?_, fun m hm => ?_⟩
  · unfold ones
    rw [List.pairwise_map]
    exact h.1
  · unfold ones at hm
    obtain ⟨x, _, rfl⟩ := List.mem_map.1 hm
    exact Int.le_refl _
theorem ones_get {l : List (ByteArray × Int)} (h : Sorted l) (s : ByteArray) : getM (ones l) s = if 0 < getM l s then 1 else 0 := by
  by_cases hp : 0 < getM l s
  · rw [if_pos hp]
    have hm : (s, (1 : Int)) ∈ ones l := List.mem_map.2 ⟨_, getM_pos hp, rfl⟩
    exact getM_mem (ones_sorted h) hm
  · rw [if_neg hp]
    have h0 := getM_nonneg (s := s) (ones_sorted h)
    by_cases hq : 0 < getM (ones l) s
    · exfalso
      unfold ones at hq
      obtain ⟨x, hx, e⟩ := List.mem_map.1 (getM_pos hq)
      have e1 : x.1 = s := (Prod.mk.inj e).1
      have e2 := getM_mem h hx
      have e3 := h.2 x hx
      rw [e1] at e2
      omega
    · omega
theorem names_ext {a b : List (ByteArray × Int)} (ha : Sorted a) (hb : Sorted b) (h : ∀ s, 0 < getM a s ↔ 0 < getM b s) : namesM a = namesM b := by
  have e : ones a = ones b := sorted_ext (ones_sorted ha) (ones_sorted hb) fun s => by
    rw [ones_get ha, ones_get hb]
    by_cases hp : 0 < getM a s
    · rw [if_pos hp, if_pos ((h s).1 hp)]
    · rw [if_neg hp, if_neg (fun q => hp ((h s).2 q))]
  have e2 := congrArg namesM e
  simpa [namesM, ones, Function.comp_def] using e2

/-- A source that not both have. -/
def Alone (x : (ByteArray × Int) × (ByteArray × Int)) : Prop := ¬ (0 < x.1.2 ∧ 0 < x.2.2)
theorem names_of_pairs {a b : List (ByteArray × Int)} {P : List ((ByteArray × Int) × (ByteArray × Int))} (ha : StampP a) (hb : StampP b) (hP : PSpec a b P) (h : ∀ p ∈ P, ¬ Alone p) : namesM a = namesM b := by
  have sa := stamp_sorted ha
  have sb := stamp_sorted hb
  refine names_ext sa sb fun s => ?_
  constructor
  · intro h1
    obtain ⟨p, hm, hp⟩ := hP.all s (.inl h1)
    obtain ⟨p1, p2, _⟩ := hP.mem p hm
    have := Classical.not_not.1 (h p hm)
    rw [p1, p2, hp] at this
    exact this.2
  · intro h1
    obtain ⟨p, hm, hp⟩ := hP.all s (.inr h1)
    obtain ⟨p1, p2, _⟩ := hP.mem p hm
    have := Classical.not_not.1 (h p hm)
    rw [p1, p2, hp] at this
    exact this.1
theorem not_names_of_alone {a b : List (ByteArray × Int)} {P : List ((ByteArray × Int) × (ByteArray × Int))} (ha : StampP a) (hb : StampP b) (hP : PSpec a b P) {p : (ByteArray × Int) × (ByteArray × Int)} (hm : p ∈ P) (h : Alone p) : ¬ namesM a = namesM b := by
  intro e
  obtain ⟨p1, p2, p3⟩ := hP.mem p hm
  refine h ?_
  have hn := names_get ha hb e p.1.1
  rw [p1, p2] at p3
  simp only at p3
  rw [p1, p2]
  simp only
  rcases p3 with h3 | h3
  · exact ⟨h3, hn.1 h3⟩
  · exact ⟨hn.2 h3, h3⟩

set_option maxRecDepth 100000 in
set_option maxHeartbeats 4000000 in
theorem same_any (aa ab : Option Addr) (ca cb : Nat) (la lb : List (ByteArray × Int)) (w : World) (hca : la.length ≤ ca) (hcb : lb.length ≤ cb) (ha : Row w aa la) (hb : Row w ab lb) (hya : StampP la) (hyb : StampP lb) :
    Calls Tryz.prog 169 #[.slice aa la.length ca, .slice ab lb.length cb] w fun e w' => IsB (namesM la = namesM lb) e ∧ Below w.heap.size w w' := by
  refine (callsIn_wide (n := 5)).1 ?_
  refine callsIn_of_wp_marks Tryz.func169 rfl trivial ?_ rfl
  simp only [Tryz.ntmps169, List.size_toArray, List.length_cons, List.length_nil, Nat.reduceAdd, Nat.reduceSub, Array.replicate_succ, Array.replicate_zero, List.push_toArray, List.append_toArray, List.nil_append, List.cons_append]
  gi_wp2_with fail
  obtain ⟨w2, hw2⟩ : ∃ w2, w.alloc (.cells #[.bool false] 4) = w2 := ⟨_, rfl⟩
  have B2 : Below w.heap.size w w2 := by rw [← hw2]; exact (Below.refl _ _).alloc (Nat.le_refl _) _
  have c2 : w2.cell? ⟨w.heap.size, 0, none⟩ = some (.bool false) := by rw [← hw2]; simp [go_sem]
  have f2 : w2.frozen? ⟨w.heap.size, 0, none⟩ = false := by rw [← hw2]; simp [go_sem]
  have z2 : w.heap.size < w2.heap.size := block_lt_of_cell c2
  rw [hw2]
  clear hw2
  refine ⟨trivial, (callsIn_wide.2 (sideBySide_any aa ab _ _ ca cb _)).mono ?_⟩
  rintro e w3 ⟨rfl, rfl⟩
  obtain ⟨W0, hW0⟩ : ∃ W0, (w2.alloc (.cells #[.slice aa la.length ca] 34)).alloc (.cells #[.slice ab lb.length cb] 34) = W0 := ⟨_, rfl⟩
  have cA : W0.cell? ⟨w2.heap.size, 0, none⟩ = some (.slice aa la.length ca) := by rw [← hW0]; simp [go_sem]
  have cB : W0.cell? ⟨w2.heap.size + 1, 0, none⟩ = some (.slice ab lb.length cb) := by rw [← hW0]; simp [go_sem]
  have nA3 : W0.cell? ⟨w2.heap.size, 3, none⟩ = none := by rw [← hW0]; simp [go_sem]
  have nB3 : W0.cell? ⟨w2.heap.size + 1, 3, none⟩ = none := by rw [← hW0]; simp [go_sem]
  have hsz : W0.heap.size = w2.heap.size + 2 := by rw [← hW0]; simp
  have b20 : Below w2.heap.size w2 W0 := by rw [← hW0]; exact ((Below.refl _ _).alloc (Nat.le_refl _) _).alloc (by simp) _
  have B0 : Below w.heap.size w W0 := B2.trans (b20.mono (Nat.le_of_lt z2))
  have c0 := cell_on b20 z2 c2
  have f0 : W0.frozen? ⟨w.heap.size, 0, none⟩ = false := (b20.frozen (p := ⟨w.heap.size, 0, none⟩) z2).trans f2
  rw [hW0]
  clear hW0 b20 c2 f2
  gi_wp2_with fail
  refine wpIn_rangeFunc_ownH (n := 5) rfl (by omega) (gf := 177) (lb := #[.pointer (some ⟨w2.heap.size, 0, none⟩), .pointer (some ⟨w2.heap.size + 1, 0, none⟩)]) rfl trivial (enters_of Tryz.func177 (by kernel_rfl) rfl)
    (side_stops 4 w.heap.size w2.heap.size w2.heap.size (w2.heap.size + 1) aa ab ca cb la lb hca hcb hya hyb (Nat.le_refl _) (by omega) W0 (by omega) cA cB nA3 nB3 (ha.low.below B0) (hb.low.below B0)) KS.trans (fun W l o o' _ h1 h2 _ => KS.put W l o o' h1 h2) (Below.refl _ _) (fun _ => rfl)
    (fun pre W => (W.cell? ⟨w.heap.size, 0, none⟩ = some (.bool false) ∧ W.frozen? ⟨w.heap.size, 0, none⟩ = false ∧ (∀ y ∈ pre, ¬ Alone y.p) ∧ W0.heap.size ≤ W.heap.size) ∧ Below w.heap.size w W)
    (fun c pre W => (c = .ret ∧ (∃ y ∈ pre, Alone y.p) ∧ W.cell? ⟨w.heap.size, 0, none⟩ = some (.bool false)) ∧ Below w.heap.size w W)
    (OwnFrom.and (Go.Own.from (fun s A B row hs hg hr => ⟨cell_kept hs.1 hg hr, (frozen_kept hs.1 hg hr).trans hs.2.1, hs.2.2.1, Nat.le_trans hs.2.2.2 hg.size⟩) _) (ownFrom_below (Nat.le_refl _) (by omega)))
    (fun c => OwnFrom.and (Go.Own.from (fun s A B row hs hg hr => ⟨hs.1, hs.2.1, cell_kept hs.2.2 hg hr⟩) _) (ownFrom_below (Nat.le_refl _) (by omega)))
    ⟨⟨c0, f0, by simp, Nat.le_refl _⟩, B0⟩
    (fun x a' W => ∃ bx bz, W0.heap.size ≤ bx ∧ W0.heap.size ≤ bz ∧ (W.cell? ⟨bx, 0, none⟩ = some (.string x.p.1.1) ∧ W.cell? ⟨bx, 1, none⟩ = some (.int .i64 x.p.1.2) ∧ W.cell? ⟨bz, 0, none⟩ = some (.string x.p.2.1) ∧ W.cell? ⟨bz, 1, none⟩ = some (.int .i64 x.p.2.2)) ∧ a' = { tmps := #[.slice aa la.length ca, .slice ab lb.length cb, undef, undef, .pointer (some ⟨w.heap.size, 0, none⟩), .pointer (some ⟨bx, 0, none⟩), .pointer (some ⟨bz, 0, none⟩), .slice aa la.length ca, .slice ab lb.length cb, .func (.func 177) #[] #[.pointer (some ⟨w2.heap.size, 0, none⟩), .pointer (some ⟨w2.heap.size + 1, 0, none⟩)], .agg #[.string x.p.1.1, .int .i64 x.p.1.2], .agg #[.string x.p.2.1, .int .i64 x.p.2.2], undef, undef, undef, undef, undef, undef, undef, undef], defers := [] })
    (fun x a' s A B row hs hg hr => by
      obtain ⟨bx, bz, h1, h2, h3, h4⟩ := hs
      exact ⟨bx, bz, h1, h2, ⟨cell_kept h3.1 hg (fun r e => (hr r e).2), cell_kept h3.2.1 hg (fun r e => (hr r e).2), cell_kept h3.2.2.1 hg (fun r e => (hr r e).2), cell_kept h3.2.2.2 hg (fun r e => (hr r e).2)⟩, h4⟩) ?assign ?body ?done ?stop
  case assign =>
    rintro l pre x W K ⟨⟨hc, hf, hp, hW0⟩, hB⟩ hK
    simp only [encP]
    gi_wp2
    have hb2 : Below W.heap.size W ((W.alloc (.cells #[.string x.p.1.1, .int .i64 x.p.1.2] 144)).alloc (.cells #[.string x.p.2.1, .int .i64 x.p.2.2] 144)) := ((Below.refl _ _).alloc (Nat.le_refl _) _).alloc (by simp) _
    have hWl := block_lt_of_cell hc
    exact hK _ _ (keepsFrom_below _ hb2) (KS.of_below hb2) ⟨⟨cell_on hb2 hWl hc, (hb2.frozen (p := ⟨w.heap.size, 0, none⟩) hWl).trans hf, hp, Nat.le_trans hW0 hb2.size⟩, hB.trans (hb2.mono hB.size)⟩ ⟨W.heap.size, W.heap.size + 1, hW0, Nat.le_succ_of_le hW0, ⟨by simp [go_sem], by simp [go_sem], by simp [go_sem], by simp [go_sem]⟩, rfl⟩
  case body =>
    rintro l pre x a' W hle ⟨r, hr⟩ ⟨⟨hc, hf, hp, hW0⟩, hB⟩ ⟨bx, bz, h1, h2, ⟨x0, x1, z0, z1⟩, rfl⟩ hlt
    have hWl := block_lt_of_cell hc
    have hok : ∀ W', Below W.heap.size W W' → ¬ Alone x.p → KeepsFrom W0.heap.size W W' ∧ KS w.heap.size w2.heap.size W W' ∧ (W'.cell? ⟨w.heap.size, 0, none⟩ = some (.bool false) ∧ W'.frozen? ⟨w.heap.size, 0, none⟩ = false ∧ (∀ y ∈ pre ++ [x], ¬ Alone y.p) ∧ W0.heap.size ≤ W'.heap.size) ∧ Below w.heap.size w W' :=
      fun W' h hn => ⟨keepsFrom_below _ h, KS.of_below h, ⟨cell_on h hWl hc, (h.frozen (p := ⟨w.heap.size, 0, none⟩) hWl).trans hf, fun y hy => (List.mem_append.1 hy).elim (hp y) fun e => by simp at e; subst e; exact hn, Nat.le_trans hW0 h.size⟩, hB.trans (h.mono hB.size)⟩
    have HOK : Hid _ := hok
    have hbd : ∀ W', Below W.heap.size W W' → W'.cell? ⟨w.heap.size, 0, none⟩ = some (.bool false) → Alone x.p → KeepsFrom W0.heap.size W (W'.setCell ⟨w.heap.size, 0, none⟩ (.bool false)) ∧ (((∃ y ∈ pre ++ [x], Alone y.p) ∧ (W'.setCell ⟨w.heap.size, 0, none⟩ (.bool false)).cell? ⟨w.heap.size, 0, none⟩ = some (.bool false)) ∧ Below w.heap.size w (W'.setCell ⟨w.heap.size, 0, none⟩ (.bool false))) :=
      fun W' h hc' hx => ⟨(keepsFrom_below _ h).trans ((KeepsOthers.setCell _ _ _).from _), ⟨⟨x, by simp, hx⟩, World.cell?_setCell_same' _ _ _ (by rw [hc']; rfl)⟩, (hB.trans (h.mono hB.size)).setCell (p := ⟨w.heap.size, 0, none⟩) (Nat.le_refl _) _⟩
    have HBAD : Hid _ := hbd
    clear hok hbd
    by_cases e1 : 0 < x.p.1.2
    · gi_wp2_with fail
      refine ⟨trivial, (CallsIn.inRound l (callsIn_wide.2 (had_true _ _ _ e1))).mono ?_⟩
      rintro e w3 ⟨rfl, hb3⟩
      have z0' := cell_on hb3 (block_lt_of_cell z0) z0
      have z1' := cell_on hb3 (block_lt_of_cell z1) z1
      by_cases e2 : 0 < x.p.2.2
      · gi_wp2_with fail
        refine ⟨trivial, (CallsIn.inRound l (callsIn_wide.2 (had_true _ _ _ e2))).mono ?_⟩
        rintro e w4 ⟨rfl, hb4⟩
        have hb34 := hb3.trans (hb4.mono hb3.size)
        have HAL : Hid (¬ Alone x.p) := fun h => h ⟨e1, e2⟩
        gi_wp2_with fail
        exact HOK.out w4 hb34 HAL.out
      · gi_wp2_with fail
        refine ⟨trivial, (CallsIn.inRound l (callsIn_wide.2 (had_false _ _ _ (Int.not_lt.2 e2)))).mono ?_⟩
        rintro e w4 ⟨rfl, hb4⟩
        have hb34 := hb3.trans (hb4.mono hb3.size)
        have hc4 := cell_on hb34 hWl hc
        have hf4 := (hb34.frozen (p := ⟨w.heap.size, 0, none⟩) hWl).trans hf
        have HAL : Hid (Alone x.p) := fun h => absurd h.2 (Int.not_lt.2 e2)
        clear hc hf
        gi_wp2_with fail
        have q := HBAD.out w4 hb34 hc4 HAL.out
        exact ⟨q.1, ⟨rfl, q.2.1⟩, q.2.2⟩
    · gi_wp2_with fail
      refine ⟨trivial, (CallsIn.inRound l (callsIn_wide.2 (had_false _ _ _ (Int.not_lt.2 e1)))).mono ?_⟩
      rintro e w3 ⟨rfl, hb3⟩
      have hc4 := cell_on hb3 hWl hc
      have hf4 := (hb3.frozen (p := ⟨w.heap.size, 0, none⟩) hWl).trans hf
      have HAL : Hid (Alone x.p) := fun h => absurd h.1 (Int.not_lt.2 e1)
      clear hc hf
      gi_wp2_with fail
      refine ⟨trivial, ?_⟩
      gi_wp2_with fail
      have q := HBAD.out w3 hb3 hc4 HAL.out
      exact ⟨q.1, ⟨rfl, q.2.1⟩, q.2.2⟩
  case done =>
    rintro D ys W hD hS ⟨⟨hc, hf, hne, _⟩, hB⟩ hK
    gi_wp2
    have hK' := (KeepsOthers.setCell W ⟨w.heap.size, 0, none⟩ (.bool true)).same D _ hK rfl
    refine ⟨by simp, .inl ⟨_, _, rfl, run_takeDeferred hK', ?_⟩⟩
    have hc5 := cell_kept (World.cell?_setCell_same' W ⟨w.heap.size, 0, none⟩ (.bool true) (by rw [hc]; rfl)) (grownBy_putObj' _ D (.deferred none)) (fun r e => by cases e; exact ⟨_, hK', rfl⟩)
    refine ⟨.bool true, ?_, isB_true (names_of_pairs hya hyb (pairs_spec _ la lb (stamp_sorted hya) (stamp_sorted hyb) (Nat.le_refl _)) ?_), (hB.setCell (p := ⟨w.heap.size, 0, none⟩) (Nat.le_refl _) _).trans (belowK_b (w := w) (Nat.le_refl _) _ D _ _ (by omega) hK' rfl rfl)⟩
    · simp [results, Tryz.f169, go_sem, hc5]
    · rw [← hS]
      intro p hp
      obtain ⟨y, hy, rfl⟩ := List.mem_map.1 hp
      exact hne y hy
  case stop =>
    rintro D c pre W hD hpre ⟨⟨rfl, ⟨y, hy, hbad⟩, hcr⟩, hB⟩ hK
    gi_wp2
    refine ⟨by simp, .inl ⟨_, _, rfl, run_takeDeferred hK, ?_⟩⟩
    have hc5 := cell_kept hcr (grownBy_putObj' _ D (.deferred none)) (fun r e => by cases e; exact ⟨_, hK, rfl⟩)
    refine ⟨.bool false, ?_, isB_false (not_names_of_alone hya hyb (pairs_spec _ la lb (stamp_sorted hya) (stamp_sorted hyb) (Nat.le_refl _)) (hpre.subset (List.mem_map.2 ⟨y, hy, rfl⟩)) hbad), hB.trans (belowK_b (w := w) (Nat.le_refl _) W D _ _ (by omega) hK rfl rfl)⟩
    simp [results, Tryz.f169, go_sem, hc5]

end Go.Proofs.YtpfhegengmlkmacGreatDoor
/- The walk of impl.StampOrder. -/
namespace Go.Proofs.YtpfhegengmlkmacGreatDoor
open Go.RowKit Go.Shelf Go.BigFrame
attribute [local go_sem] Oper.semAt_some

/-- Of a pair: as much on both sides; less on the left; more on the left. -/
def EqP (p : (ByteArray × Int) × (ByteArray × Int)) : Prop := p.1 = p.2
def LtP (p : (ByteArray × Int) × (ByteArray × Int)) : Prop := p.1 ≠ p.2 ∧ p.1.2 < p.2.2
def GtP (p : (ByteArray × Int) × (ByteArray × Int)) : Prop := p.1 ≠ p.2 ∧ ¬ p.1.2 < p.2.2
/-- What the order is behind some pairs. -/
def OrdS (pre : List ((ByteArray × Int) × (ByteArray × Int))) (v : Int) : Prop :=
  (v = 0 ∧ ∀ y ∈ pre, EqP y) ∨ (v = 1 ∧ (∃ y ∈ pre, LtP y) ∧ ∀ y ∈ pre, EqP y ∨ LtP y) ∨ (v = 2 ∧ (∃ y ∈ pre, GtP y) ∧ ∀ y ∈ pre, EqP y ∨ GtP y)
theorem OrdS.eq {pre : List ((ByteArray × Int) × (ByteArray × Int))} {v : Int} {x : (ByteArray × Int) × (ByteArray × Int)} (h : OrdS pre v) (hx : EqP x) : OrdS (pre ++ [x]) v := by
  rcases h with ⟨e, h⟩ | ⟨e, ⟨y, hy, hl⟩, h⟩ | ⟨e, ⟨y, hy, hl⟩, h⟩
  · exact .inl ⟨e, fun y hy => (List.mem_append.1 hy).elim (h y) (fun k => by simp at k; subst k; exact hx)⟩
  · exact .inr (.inl ⟨e, ⟨y, List.mem_append.2 (.inl hy), hl⟩, fun y hy => (List.mem_append.1 hy).elim (h y) (fun k => by simp at k; subst k; exact .inl hx)⟩)
  · exact .inr (.inr ⟨e, ⟨y, List.mem_append.2 (.inl hy), hl⟩, fun y hy => (List.mem_append.1 hy).elim (h y) (fun k => by simp at k; subst k; exact .inl hx)⟩)
theorem OrdS.lt {pre : List ((ByteArray × Int) × (ByteArray × Int))} {v : Int} {x : (ByteArray × Int) × (ByteArray × Int)} (h : OrdS pre v) (hv : v = 0 ∨ v = 1) (hx : LtP x) : OrdS (pre ++ [x]) 1 := by
  rcases h with ⟨e, h⟩ | ⟨e, _, h⟩ | ⟨e, _, _⟩
  · exact .inr (.inl ⟨rfl, ⟨x, by simp, hx⟩, fun y hy => (List.mem_append.1 hy).elim (fun k => .inl (h y k)) (fun k => by simp at k; subst k; exact .inr hx)⟩)
  · exact .inr (.inl ⟨rfl, ⟨x, by simp, hx⟩, fun y hy => (List.mem_append.1 hy).elim (h y) (fun k => by simp at k; subst k; exact .inr hx)⟩)
  · omega
theorem OrdS.gt {pre : List ((ByteArray × Int) × (ByteArray × Int))} {v : Int} {x : (ByteArray × Int) × (ByteArray × Int)} (h : OrdS pre v) (hv : v = 0 ∨ v = 2) (hx : GtP x) : OrdS (pre ++ [x]) 2 := by
  rcases h with ⟨e, h⟩ | ⟨e, _, _⟩ | ⟨e, _, h⟩
  · exact .inr (.inr ⟨rfl, ⟨x, by simp, hx⟩, fun y hy => (List.mem_append.1 hy).elim (fun k => .inl (h y k)) (fun k => by simp at k; subst k; exact .inr hx)⟩)
  · omega
  · exact .inr (.inr ⟨rfl, ⟨x, by simp, hx⟩, fun y hy => (List.mem_append.1 hy).elim (h y) (fun k => by simp at k; subst k; exact .inr hx)⟩)
theorem OrdS.val {pre : List ((ByteArray × Int) × (ByteArray × Int))} {v : Int} (h : OrdS pre v) : v = 0 ∨ v = 1 ∨ v = 2 := by
  rcases h with ⟨e, _⟩ | ⟨e, _⟩ | ⟨e, _⟩ <;> omega
/-- One pair the one way, another one the other way. -/
def Apart (pre : List ((ByteArray × Int) × (ByteArray × Int))) : Prop := (∃ y ∈ pre, LtP y) ∧ ∃ y ∈ pre, GtP y
theorem OrdS.apart1 {pre : List ((ByteArray × Int) × (ByteArray × Int))} {x : (ByteArray × Int) × (ByteArray × Int)} (h : OrdS pre 1) (hx : GtP x) : Apart (pre ++ [x]) := by
  rcases h with ⟨e, _⟩ | ⟨_, ⟨y, hy, hl⟩, _⟩ | ⟨e, _, _⟩
  · omega
  · exact ⟨⟨y, List.mem_append.2 (.inl hy), hl⟩, ⟨x, by simp, hx⟩⟩
  · omega
theorem OrdS.apart2 {pre : List ((ByteArray × Int) × (ByteArray × Int))} {x : (ByteArray × Int) × (ByteArray × Int)} (h : OrdS pre 2) (hx : LtP x) : Apart (pre ++ [x]) := by
  rcases h with ⟨e, _⟩ | ⟨e, _, _⟩ | ⟨_, ⟨y, hy, hl⟩, _⟩
  · omega
  · omega
  · exact ⟨⟨x, by simp, hx⟩, ⟨y, List.mem_append.2 (.inl hy), hl⟩⟩

theorem pair_vers {a b : List (ByteArray × Int)} {P : List ((ByteArray × Int) × (ByteArray × Int))} (hP : PSpec a b P) {p : (ByteArray × Int) × (ByteArray × Int)} (hm : p ∈ P) :
    (EqP p → getM a p.1.1 = getM b p.1.1) ∧ (LtP p → getM a p.1.1 < getM b p.1.1) ∧ (GtP p → getM b p.1.1 < getM a p.1.1) := by
  obtain ⟨e1, e2, _⟩ := hP.mem p hm
  obtain ⟨p1, p2⟩ := p
  simp only at e1 e2
  refine ⟨fun h => ?_, fun h => ?_, fun h => ?_⟩
  · have h : p1 = p2 := h
    rw [e1, e2] at h
    exact (Prod.mk.inj h).2
  · have h := h.2
    simp only at h
    rw [e1, e2] at h
    exact h
  · obtain ⟨h1, h2⟩ := h
    simp only at h1 h2
    have h3 : p1.2 ≠ p2.2 := fun e => h1 (by rw [e1, e2]; simp only [Prod.mk.injEq, true_and]; rw [e1, e2] at e; exact e)
    have h4 : p2.2 < p1.2 := by omega
    rw [e1, e2] at h4
    exact h4
theorem below_of {a b : List (ByteArray × Int)} {P : List ((ByteArray × Int) × (ByteArray × Int))} (ha : Sorted a) (hP : PSpec a b P) (h : ∀ p ∈ P, EqP p ∨ LtP p) : BelowP a b := fun i hi => by
  have e1 : getM a a[i].1 = a[i].2 := getM_mem ha (List.getElem_mem hi)
  have e2 := ha.2 _ (List.getElem_mem hi)
  obtain ⟨p, hm, hp⟩ := hP.all a[i].1 (.inl (by omega))
  obtain ⟨k1, k2, _⟩ := pair_vers hP hm
  rw [hp] at k1 k2
  rcases h p hm with h | h
  · have := k1 h; omega
  · have := k2 h; omega
theorem above_of {a b : List (ByteArray × Int)} {P : List ((ByteArray × Int) × (ByteArray × Int))} (hb : Sorted b) (hP : PSpec a b P) (h : ∀ p ∈ P, EqP p ∨ GtP p) : BelowP b a := fun i hi => by
  have e1 : getM b b[i].1 = b[i].2 := getM_mem hb (List.getElem_mem hi)
  have e2 := hb.2 _ (List.getElem_mem hi)
  obtain ⟨p, hm, hp⟩ := hP.all b[i].1 (.inr (by omega))
  obtain ⟨k1, _, k2⟩ := pair_vers hP hm
  rw [hp] at k1 k2
  rcases h p hm with h | h
  · have := k1 h; omega
  · have := k2 h; omega
theorem not_below_of {a b : List (ByteArray × Int)} {P : List ((ByteArray × Int) × (ByteArray × Int))} (hb : Sorted b) (hP : PSpec a b P) {p : (ByteArray × Int) × (ByteArray × Int)} (hm : p ∈ P) (h : GtP p) : ¬ BelowP a b := fun hab => by
  have k := (pair_vers hP hm).2.2 h
  have hn := getM_nonneg (s := p.1.1) hb
  have hmem := getM_pos (l := a) (s := p.1.1) (by omega)
  obtain ⟨i, hi, e⟩ := List.mem_iff_getElem.1 hmem
  have := hab i hi
  rw [e] at this
  simp only at this
  omega
theorem not_above_of {a b : List (ByteArray × Int)} {P : List ((ByteArray × Int) × (ByteArray × Int))} (ha : Sorted a) (hP : PSpec a b P) {p : (ByteArray × Int) × (ByteArray × Int)} (hm : p ∈ P) (h : LtP p) : ¬ BelowP b a := fun hab => by
  have k := (pair_vers hP hm).2.1 h
  have hn := getM_nonneg (s := p.1.1) ha
  have hmem := getM_pos (l := b) (s := p.1.1) (by omega)
  obtain ⟨i, hi, e⟩ := List.mem_iff_getElem.1 hmem
  have := hab i hi
  rw [e] at this
  simp only at this
  omega
theorem ord_done {a b : List (ByteArray × Int)} {P : List ((ByteArray × Int) × (ByteArray × Int))} (ha : StampP a) (hb : StampP b) (hP : PSpec a b P) {v : Int} (h : OrdS P v) : IsOrd a b v := by
  have sa := stamp_sorted ha
  have sb := stamp_sorted hb
  refine .inr ⟨ha, hb, ?_⟩
  rcases h with ⟨rfl, h⟩ | ⟨rfl, ⟨y, hy, hl⟩, h⟩ | ⟨rfl, ⟨y, hy, hl⟩, h⟩
  · exact .inl ⟨below_of sa hP fun p hp => .inl (h p hp), above_of sb hP fun p hp => .inl (h p hp), rfl⟩
  · exact .inr (.inl ⟨below_of sa hP h, not_above_of sa hP hy hl, rfl⟩)
  · exact .inr (.inr (.inl ⟨not_below_of sb hP hy hl, above_of sb hP h, rfl⟩))
theorem ord_apart {a b : List (ByteArray × Int)} {P pre : List ((ByteArray × Int) × (ByteArray × Int))} (ha : StampP a) (hb : StampP b) (hP : PSpec a b P) (hpre : pre <+: P) (h : Apart pre) : IsOrd a b 3 := by
  obtain ⟨⟨y, hy, hl⟩, z, hz, hg⟩ := h
  exact .inr ⟨ha, hb, .inr (.inr (.inr ⟨not_below_of (stamp_sorted hb) hP (hpre.subset hz) hg, not_above_of (stamp_sorted ha) hP (hpre.subset hy) hl, rfl⟩))⟩

theorem later_lt (x y : ByteArray × Int) (w : World) (h : x.2 < y.2) :
    Calls Tryz.prog 144 #[.agg #[.string x.1, .int .i64 x.2], .agg #[.string y.1, .int .i64 y.2]] w fun e w' => e = .returned (.agg #[.string y.1, .int .i64 y.2]) ∧ Below w.heap.size w w' :=
  (later_any x y w).mono fun e w' ⟨h1, h2⟩ => ⟨by rw [h1]; unfold laterM; rw [if_pos h], h2⟩
theorem later_ge (x y : ByteArray × Int) (w : World) (h : ¬ x.2 < y.2) :
    Calls Tryz.prog 144 #[.agg #[.string x.1, .int .i64 x.2], .agg #[.string y.1, .int .i64 y.2]] w fun e w' => e = .returned (.agg #[.string x.1, .int .i64 x.2]) ∧ Below w.heap.size w w' :=
  (later_any x y w).mono fun e w' ⟨h1, h2⟩ => ⟨by rw [h1]; unfold laterM; rw [if_neg h], h2⟩

set_option maxRecDepth 100000 in
set_option maxHeartbeats 4000000 in
theorem implOrder_any (aa ab : Option Addr) (ca cb : Nat) (la lb : List (ByteArray × Int)) (w : World) (hla : la.length ≤ maxLen) (hlb : lb.length ≤ maxLen) (hca : la.length ≤ ca) (hcb : lb.length ≤ cb) (ha : Row w aa la) (hb : Row w ab lb)
    (hsa : ∀ j, (h : j < la.length) → la[j].1.size ≤ maxLen) (hsb : ∀ j, (h : j < lb.length) → lb[j].1.size ≤ maxLen) :
    Calls Tryz.prog 98 #[.slice aa la.length ca, .slice ab lb.length cb] w fun e w' => (∃ v, e = .returned (.int .i64 v) ∧ IsOrd la lb v) ∧ Below w.heap.size w w' := by
  refine (callsIn_wide (n := 5)).1 ?_
  refine callsIn_of_wp_marks Tryz.func98 rfl trivial ?_ rfl
  simp only [Tryz.ntmps98, List.size_toArray, List.length_cons, List.length_nil, Nat.reduceAdd, Nat.reduceSub, Array.replicate_succ, Array.replicate_zero, List.push_toArray, List.append_toArray, List.nil_append, List.cons_append]
  gi_wp2_with fail
  have hba : Below w.heap.size w (w.alloc (.cells #[.int .i64 0] 3)) := (Below.refl _ _).alloc (Nat.le_refl _) _
  refine ⟨trivial, (callsIn_wide.2 (implStampOk_any aa ca la _ hla (ha.below hba) hsa)).mono ?_⟩
  rintro e w1 ⟨⟨r, rfl, hr1⟩, hb1⟩
  have B1 : Below w.heap.size w w1 := hba.trans (hb1.mono hba.size)
  have c1 : w1.cell? ⟨w.heap.size, 0, none⟩ = some (.int .i64 0) := cell_on hb1 (by simp) (by simp [go_sem])
  have f1 : w1.frozen? ⟨w.heap.size, 0, none⟩ = false := (hb1.frozen (p := ⟨w.heap.size, 0, none⟩) (by simp)).trans (by simp [go_sem])
  have z1 : w.heap.size < w1.heap.size := block_lt_of_cell c1
  clear hb1
  cases r
  · have hn : ¬ StampP la := fun h => by simpa using hr1.2 h
    clear hr1
    gi_wp2_with fail
    refine ⟨trivial, ?_⟩
    gi_wp2_with fail
    refine ⟨.int .i64 4, ?_, ⟨4, rfl, .inl ⟨fun h => hn h.1, rfl⟩⟩, B1.setCell (p := ⟨w.heap.size, 0, none⟩) (Nat.le_refl _) _⟩
    simp [results, Tryz.f98, go_sem, c1]
  have hya : StampP la := hr1.1 rfl
  clear hr1
  gi_wp2_with fail
  refine ⟨trivial, (callsIn_wide.2 (implStampOk_any ab cb lb _ hlb (hb.below B1) hsb)).mono ?_⟩
  rintro e w2 ⟨⟨r, rfl, hr2⟩, hb2⟩
  have B2 : Below w.heap.size w w2 := B1.trans (hb2.mono B1.size)
  have c2 := cell_on hb2 z1 c1
  have f2 : w2.frozen? ⟨w.heap.size, 0, none⟩ = false := (hb2.frozen (p := ⟨w.heap.size, 0, none⟩) z1).trans f1
  have z2 : w.heap.size < w2.heap.size := block_lt_of_cell c2
  clear hb2 c1 f1 z1 B1
  cases r
  · have hn : ¬ StampP lb := fun h => by simpa using hr2.2 h
    clear hr2
    gi_wp2_with fail
    refine ⟨.int .i64 4, ?_, ⟨4, rfl, .inl ⟨fun h => hn h.2, rfl⟩⟩, B2.setCell (p := ⟨w.heap.size, 0, none⟩) (Nat.le_refl _) _⟩
    simp [results, Tryz.f98, go_sem, c2]
  have hyb : StampP lb := hr2.1 rfl
  clear hr2
  gi_wp2_with fail
  refine ⟨trivial, (callsIn_wide.2 (sideBySide_any aa ab _ _ ca cb _)).mono ?_⟩
  rintro e w3 ⟨rfl, rfl⟩
  simp only [World.size_alloc]
  obtain ⟨W0, hW0⟩ : ∃ W0, ((w2.alloc (.cells #[.int .i64 0] 3)).alloc (.cells #[.slice aa la.length ca] 34)).alloc (.cells #[.slice ab lb.length cb] 34) = W0 := ⟨_, rfl⟩
  have cO : W0.cell? ⟨w2.heap.size, 0, none⟩ = some (.int .i64 0) := by rw [← hW0]; simp [go_sem]
  have fO : W0.frozen? ⟨w2.heap.size, 0, none⟩ = false := by rw [← hW0]; simp [go_sem]
  have cA : W0.cell? ⟨w2.heap.size + 1, 0, none⟩ = some (.slice aa la.length ca) := by rw [← hW0]; simp [go_sem]
  have cB : W0.cell? ⟨w2.heap.size + 1 + 1, 0, none⟩ = some (.slice ab lb.length cb) := by rw [← hW0]; simp [go_sem]
  have nA3 : W0.cell? ⟨w2.heap.size + 1, 3, none⟩ = none := by rw [← hW0]; simp [go_sem]
  have nB3 : W0.cell? ⟨w2.heap.size + 1 + 1, 3, none⟩ = none := by rw [← hW0]; simp [go_sem]
  have hsz : W0.heap.size = w2.heap.size + 3 := by rw [← hW0]; simp
  have b20 : Below w2.heap.size w2 W0 := by rw [← hW0]; exact (((Below.refl _ _).alloc (Nat.le_refl _) _).alloc (by simp) _).alloc (by simp; omega) _
  have B0 : Below w.heap.size w W0 := B2.trans (b20.mono (Nat.le_of_lt z2))
  have c0 := cell_on b20 z2 c2
  have f0 : W0.frozen? ⟨w.heap.size, 0, none⟩ = false := (b20.frozen (p := ⟨w.heap.size, 0, none⟩) z2).trans f2
  rw [hW0]
  clear hW0 b20 c2 f2
  gi_wp2_with fail
  refine wpIn_rangeFunc_ownH (n := 5) rfl (by omega) (gf := 177) (lb := #[.pointer (some ⟨w2.heap.size + 1, 0, none⟩), .pointer (some ⟨w2.heap.size + 1 + 1, 0, none⟩)]) rfl trivial (enters_of Tryz.func177 (by kernel_rfl) rfl)
    (side_stops 4 w.heap.size (w2.heap.size + 1) (w2.heap.size + 1) (w2.heap.size + 1 + 1) aa ab ca cb la lb hca hcb hya hyb (Nat.le_refl _) (by omega) W0 (by omega) cA cB nA3 nB3 (ha.low.below B0) (hb.low.below B0)) KS.trans (fun W l o o' _ h1 h2 _ => KS.put W l o o' h1 h2) (Below.refl _ _) (fun _ => rfl)
    (fun pre W => (W.cell? ⟨w.heap.size, 0, none⟩ = some (.int .i64 0) ∧ W.frozen? ⟨w.heap.size, 0, none⟩ = false ∧ (∃ v, OrdS (pre.map PM.p) v ∧ W.cell? ⟨w2.heap.size, 0, none⟩ = some (.int .i64 v) ∧ W.frozen? ⟨w2.heap.size, 0, none⟩ = false) ∧ W0.heap.size ≤ W.heap.size) ∧ Below w.heap.size w W)
    (fun c pre W => (c = .ret ∧ Apart (pre.map PM.p) ∧ W.cell? ⟨w.heap.size, 0, none⟩ = some (.int .i64 3)) ∧ Below w.heap.size w W)
    (OwnFrom.and (Go.Own.from (fun s A B row hs hg hr => ⟨cell_kept hs.1 hg hr, (frozen_kept hs.1 hg hr).trans hs.2.1, ⟨hs.2.2.1.choose, hs.2.2.1.choose_spec.1, cell_kept hs.2.2.1.choose_spec.2.1 hg hr, (frozen_kept hs.2.2.1.choose_spec.2.1 hg hr).trans hs.2.2.1.choose_spec.2.2⟩, Nat.le_trans hs.2.2.2 hg.size⟩) _) (ownFrom_below (Nat.le_refl _) (by omega)))
    (fun c => OwnFrom.and (Go.Own.from (fun s A B row hs hg hr => ⟨hs.1, hs.2.1, cell_kept hs.2.2 hg hr⟩) _) (ownFrom_below (Nat.le_refl _) (by omega)))
    ⟨⟨c0, f0, ⟨0, .inl ⟨rfl, by simp⟩, cO, fO⟩, Nat.le_refl _⟩, B0⟩
    (fun x a' W => ∃ bx bz, W0.heap.size ≤ bx ∧ W0.heap.size ≤ bz ∧ (W.cell? ⟨bx, 0, none⟩ = some (.string x.p.1.1) ∧ W.cell? ⟨bx, 1, none⟩ = some (.int .i64 x.p.1.2) ∧ W.cell? ⟨bz, 0, none⟩ = some (.string x.p.2.1) ∧ W.cell? ⟨bz, 1, none⟩ = some (.int .i64 x.p.2.2)) ∧ a' = { tmps := #[.slice aa la.length ca, .slice ab lb.length cb, undef, undef, .pointer (some ⟨w.heap.size, 0, none⟩), .pointer (some ⟨w2.heap.size, 0, none⟩), .pointer (some ⟨bx, 0, none⟩), .pointer (some ⟨bz, 0, none⟩), undef, .slice aa la.length ca, .bool true, .bool false, .bool false, .slice ab lb.length cb, .bool true, .bool false, .bool false, .slice aa la.length ca, .slice ab lb.length cb, .func (.func 177) #[] #[.pointer (some ⟨w2.heap.size + 1, 0, none⟩), .pointer (some ⟨w2.heap.size + 1 + 1, 0, none⟩)], .agg #[.string x.p.1.1, .int .i64 x.p.1.2], .agg #[.string x.p.2.1, .int .i64 x.p.2.2], undef, undef, undef, undef, undef, undef, undef, undef, undef, undef, undef, undef, undef, undef, undef, undef, undef], defers := [] })
    (fun x a' s A B row hs hg hr => by
      obtain ⟨bx, bz, h1, h2, h3, h4⟩ := hs
      exact ⟨bx, bz, h1, h2, ⟨cell_kept h3.1 hg (fun r e => (hr r e).2), cell_kept h3.2.1 hg (fun r e => (hr r e).2), cell_kept h3.2.2.1 hg (fun r e => (hr r e).2), cell_kept h3.2.2.2 hg (fun r e => (hr r e).2)⟩, h4⟩) ?assign ?body ?done ?stop
  case assign =>
    rintro l pre x W K ⟨⟨hc, hf, ⟨v, hv, ho, hof⟩, hW0⟩, hB⟩ hK
    simp only [encP]
    gi_wp2
    have hb2 : Below W.heap.size W ((W.alloc (.cells #[.string x.p.1.1, .int .i64 x.p.1.2] 144)).alloc (.cells #[.string x.p.2.1, .int .i64 x.p.2.2] 144)) := ((Below.refl _ _).alloc (Nat.le_refl _) _).alloc (by simp) _
    have hWl := block_lt_of_cell hc
    have hWo := block_lt_of_cell ho
    exact hK _ _ (keepsFrom_below _ hb2) (KS.of_below hb2) ⟨⟨cell_on hb2 hWl hc, (hb2.frozen (p := ⟨w.heap.size, 0, none⟩) hWl).trans hf, ⟨v, hv, cell_on hb2 hWo ho, (hb2.frozen (p := ⟨w2.heap.size, 0, none⟩) hWo).trans hof⟩, Nat.le_trans hW0 hb2.size⟩, hB.trans (hb2.mono hB.size)⟩ ⟨W.heap.size, W.heap.size + 1, hW0, Nat.le_succ_of_le hW0, ⟨by simp [go_sem], by simp [go_sem], by simp [go_sem], by simp [go_sem]⟩, rfl⟩
  case body =>
    rintro l pre x a' W hle ⟨r, hr⟩ ⟨⟨hc, hf, ⟨v, hv, ho, hof⟩, hW0⟩, hB⟩ ⟨bx, bz, h1, h2, ⟨x0, x1, z0, z1⟩, rfl⟩ hlt
    have hWl := block_lt_of_cell hc
    have hWo := block_lt_of_cell ho
    have hne : w.heap.size ≠ w2.heap.size := by omega
    have hN : ∀ n : Lat W, n.w.cell? ⟨w.heap.size, 0, none⟩ = some (.int .i64 0) ∧ n.w.frozen? ⟨w.heap.size, 0, none⟩ = false ∧ n.w.cell? ⟨w2.heap.size, 0, none⟩ = some (.int .i64 v) ∧ n.w.frozen? ⟨w2.heap.size, 0, none⟩ = false :=
      fun n => ⟨n.cell hWl hc, (n.h.frozen (p := ⟨w.heap.size, 0, none⟩) hWl).trans hf, n.cell hWo ho, (n.h.frozen (p := ⟨w2.heap.size, 0, none⟩) hWo).trans hof⟩
    have HN : Hid _ := hN
    have hset : ∀ (n : Lat W) (u : Int), OrdS ((pre ++ [x]).map PM.p) u → KeepsFrom W0.heap.size W (n.w.setCell ⟨w2.heap.size, 0, none⟩ (.int .i64 u)) ∧ KS w.heap.size (w2.heap.size + 1) W (n.w.setCell ⟨w2.heap.size, 0, none⟩ (.int .i64 u)) ∧
        ((n.w.setCell ⟨w2.heap.size, 0, none⟩ (.int .i64 u)).cell? ⟨w.heap.size, 0, none⟩ = some (.int .i64 0) ∧ (n.w.setCell ⟨w2.heap.size, 0, none⟩ (.int .i64 u)).frozen? ⟨w.heap.size, 0, none⟩ = false ∧ (∃ v, OrdS ((pre ++ [x]).map PM.p) v ∧ (n.w.setCell ⟨w2.heap.size, 0, none⟩ (.int .i64 u)).cell? ⟨w2.heap.size, 0, none⟩ = some (.int .i64 v) ∧ (n.w.setCell ⟨w2.heap.size, 0, none⟩ (.int .i64 u)).frozen? ⟨w2.heap.size, 0, none⟩ = false) ∧ W0.heap.size ≤ (n.w.setCell ⟨w2.heap.size, 0, none⟩ (.int .i64 u)).heap.size) ∧ Below w.heap.size w (n.w.setCell ⟨w2.heap.size, 0, none⟩ (.int .i64 u)) := by
      intro n u hu
      obtain ⟨n1, n2, n3, n4⟩ := hN n
      refine ⟨(keepsFrom_below _ n.h).trans ((KeepsOthers.setCell _ _ _).from _), (KS.of_below n.h).trans ⟨(KeepsOthers.setCell _ _ _).size, fun k o hk h _ => ?_⟩, ⟨(far_set _ _ hne).trans n1, ?_, ⟨u, hu, World.cell?_setCell_same' _ _ _ (by rw [n3]; rfl), ?_⟩, Nat.le_trans (Nat.le_trans hW0 n.h.size) (KeepsOthers.setCell _ _ _).size⟩, (hB.trans (n.h.mono hB.size)).setCell (p := ⟨w2.heap.size, 0, none⟩) (Nat.le_of_lt z2) _⟩
      · rw [Below.heap_setCell _ _ _ _ (by simp only; omega)]; exact h
      · simp [go_sem, n2]
      · simp [go_sem, n4]
    have HSET : Hid _ := hset
    have hret : ∀ (n : Lat W), Apart ((pre ++ [x]).map PM.p) → KeepsFrom W0.heap.size W (n.w.setCell ⟨w.heap.size, 0, none⟩ (.int .i64 3)) ∧ (Apart ((pre ++ [x]).map PM.p) ∧ (n.w.setCell ⟨w.heap.size, 0, none⟩ (.int .i64 3)).cell? ⟨w.heap.size, 0, none⟩ = some (.int .i64 3)) ∧ Below w.heap.size w (n.w.setCell ⟨w.heap.size, 0, none⟩ (.int .i64 3)) := by
      intro n hu
      obtain ⟨n1, n2, n3, n4⟩ := hN n
      exact ⟨(keepsFrom_below _ n.h).trans ((KeepsOthers.setCell _ _ _).from _), ⟨hu, World.cell?_setCell_same' _ _ _ (by rw [n1]; rfl)⟩, (hB.trans (n.h.mono hB.size)).setCell (p := ⟨w.heap.size, 0, none⟩) (Nat.le_refl _) _⟩
    have HRET : Hid _ := hret
    have hmap : (pre ++ [x]).map PM.p = pre.map PM.p ++ [x.p] := by simp
    have hsame : EqP x.p → KeepsFrom W0.heap.size W W ∧ KS w.heap.size (w2.heap.size + 1) W W ∧ (W.cell? ⟨w.heap.size, 0, none⟩ = some (.int .i64 0) ∧ W.frozen? ⟨w.heap.size, 0, none⟩ = false ∧ (∃ v, OrdS ((pre ++ [x]).map PM.p) v ∧ W.cell? ⟨w2.heap.size, 0, none⟩ = some (.int .i64 v) ∧ W.frozen? ⟨w2.heap.size, 0, none⟩ = false) ∧ W0.heap.size ≤ W.heap.size) ∧ Below w.heap.size w W :=
      fun h => ⟨KeepsFrom.refl _ _, KS.refl _ _ _, ⟨hc, hf, ⟨v, by rw [hmap]; exact hv.eq h, ho, hof⟩, hW0⟩, hB⟩
    have HSAME : Hid _ := hsame
    have HM : Hid _ := hmap
    clear hset hret hsame hmap hN
    clear hsz
    by_cases hxx : x.p.1 = x.p.2
    · obtain ⟨⟨p, q⟩, hpq⟩ := x
      obtain rfl : p = q := hxx
      gi_wp2_with fail
      exact HSAME.out rfl
    have HX : Hid (x.p.1 ≠ x.p.2) := hxx
    clear hxx
    gi_wp2_with fail
    · rename_i hs hu
      exact absurd (Prod.ext (toList_inj hs) hu) HX.out
    all_goals
      have q0 : ∀ n : Lat W, n.w.cell? ⟨bx, 0, none⟩ = some (.string x.p.1.1) := fun n => n.cell (block_lt_of_cell x0) x0
      have q1 : ∀ n : Lat W, n.w.cell? ⟨bx, 1, none⟩ = some (.int .i64 x.p.1.2) := fun n => n.cell (block_lt_of_cell x1) x1
      have q2 : ∀ n : Lat W, n.w.cell? ⟨bz, 0, none⟩ = some (.string x.p.2.1) := fun n => n.cell (block_lt_of_cell z0) z0
      have q3 : ∀ n : Lat W, n.w.cell? ⟨bz, 1, none⟩ = some (.int .i64 x.p.2.2) := fun n => n.cell (block_lt_of_cell z1) z1
      refine wpIn_region_latR (by kernel_rfl) (by kernel_rfl) (by kernel_rfl) (fun ⟨_, _, h⟩ => h) ?_
      have hne := Lat.some W
      by_cases hlt : x.p.1.2 < x.p.2.2
      · have HL : Hid (LtP x.p) := ⟨HX.out, hlt⟩
        repeat (go_big_quiet_step ((go_at_call 144; exact Calls.lat_of (later_lt _ _ _ hlt))))
        refine wpQuiet_nil ?_
        rintro _ ⟨nq, rfl⟩
        obtain ⟨n1, n2, n3, n4⟩ := HN.out nq
        have HV : Hid (OrdS (pre.map PM.p) v) := hv
        rcases hv.val with rfl | rfl | rfl
        · clear hv hc hf ho hof
          gi_wp2_with fail
          exact HSET.out nq 1 (by rw [HM.out]; exact HV.out.lt (.inl rfl) HL.out)
        · clear hv hc hf ho hof
          gi_wp2_with fail
          exact HSET.out nq 1 (by rw [HM.out]; exact HV.out.lt (.inr rfl) HL.out)
        · clear hv hc hf ho hof
          gi_wp2_with fail
          have q := HRET.out nq (by rw [HM.out]; exact HV.out.apart2 HL.out)
          exact ⟨q.1, ⟨rfl, q.2.1⟩, q.2.2⟩
      · have HL : Hid (GtP x.p) := ⟨HX.out, hlt⟩
        repeat (go_big_quiet_step ((go_at_call 144; exact Calls.lat_of (later_ge _ _ _ hlt))))
        refine wpQuiet_nil ?_
        rintro _ ⟨nq, rfl⟩
        obtain ⟨n1, n2, n3, n4⟩ := HN.out nq
        have HV : Hid (OrdS (pre.map PM.p) v) := hv
        rcases hv.val with rfl | rfl | rfl
        · clear hv hc hf ho hof
          gi_wp2_with fail
          exact HSET.out nq 2 (by rw [HM.out]; exact HV.out.gt (.inl rfl) HL.out)
        · clear hv hc hf ho hof
          gi_wp2_with fail
          have q := HRET.out nq (by rw [HM.out]; exact HV.out.apart1 HL.out)
          exact ⟨q.1, ⟨rfl, q.2.1⟩, q.2.2⟩
        · clear hv hc hf ho hof
          gi_wp2_with fail
          exact HSET.out nq 2 (by rw [HM.out]; exact HV.out.gt (.inr rfl) HL.out)
  case done =>
    rintro D ys W hD hS ⟨⟨hc, hf, ⟨v, hv, ho, hof⟩, _⟩, hB⟩ hK
    gi_wp2
    have hK' := (KeepsOthers.setCell W ⟨w.heap.size, 0, none⟩ (.int .i64 v)).same D _ hK rfl
    refine ⟨by simp, .inl ⟨_, _, rfl, run_takeDeferred hK', ?_⟩⟩
    have hc5 := cell_kept (World.cell?_setCell_same' W ⟨w.heap.size, 0, none⟩ (.int .i64 v) (by rw [hc]; rfl)) (grownBy_putObj' _ D (.deferred none)) (fun r e => by cases e; exact ⟨_, hK', rfl⟩)
    refine ⟨.int .i64 v, ?_, ⟨v, rfl, ord_done hya hyb (pairs_spec _ la lb (stamp_sorted hya) (stamp_sorted hyb) (Nat.le_refl _)) (by rw [← hS]; exact hv)⟩, (hB.setCell (p := ⟨w.heap.size, 0, none⟩) (Nat.le_refl _) _).trans (belowK_b (w := w) (Nat.le_refl _) _ D _ _ (by omega) hK' rfl rfl)⟩
    simp [results, Tryz.f98, go_sem, hc5]
  case stop =>
    rintro D c pre W hD hpre ⟨⟨rfl, hap, hcr⟩, hB⟩ hK
    gi_wp2
    refine ⟨by simp, .inl ⟨_, _, rfl, run_takeDeferred hK, ?_⟩⟩
    have hc5 := cell_kept hcr (grownBy_putObj' _ D (.deferred none)) (fun r e => by cases e; exact ⟨_, hK, rfl⟩)
    refine ⟨.int .i64 3, ?_, ⟨3, rfl, ord_apart hya hyb (pairs_spec _ la lb (stamp_sorted hya) (stamp_sorted hyb) (Nat.le_refl _)) hpre hap⟩, hB.trans (belowK_b (w := w) (Nat.le_refl _) W D _ _ (by omega) hK rfl rfl)⟩
    simp [results, Tryz.f98, go_sem, hc5]

end Go.Proofs.YtpfhegengmlkmacGreatDoor
/- Walks: takes, readWindow. -/
namespace Go.Proofs.YtpfhegengmlkmacGreatDoor
open Go.RowKit Go.BigFrame
set_option maxRecDepth 100000

theorem stamp_fit {l : List (ByteArray × Int)} (h : StampP l) : FitM l := ⟨by have := h.1; unfold maxLen; omega, fun j hj => by have := (h.2.1 j hj).1.2.1; unfold maxLen; omega⟩

theorem field_stamp (y : Int) (a : Option Addr) (n c : Nat) (u : World) : (Instr.field 44 (.agg #[.int .i64 y, .slice a n c]) 1).run Tryz.prog u = .ok (.slice a n c) u := by kernel_rfl

set_option maxHeartbeats 800000 in
theorem takes_any (W0 w : World) (b s : Nat) (l : List ItemL) (x : Int) (v : Value) (m : List (ByteArray × Int)) (h : WinB W0 w b s l) (hW : Below W0.heap.size W0 w) (hl : ∀ k, (h : k < l.length) → StampP l[k].2) (hv : IsSl W0 v m) (hm : StampP m) :
    Calls Tryz.prog 129 #[.pointer (some ⟨b, 0, none⟩), .agg #[.int .i64 x, v]] w fun e w' => IsB (∀ h : 0 < l.length, AboveP (l[l.length - 1]'(by omega)).2 m) e ∧ Below w.heap.size w w' := by
  have h4 := h.2.2.1
  have hz := hW.size
  obtain ⟨sa, sc, rfl, hcap, hrow⟩ := hv
  go_enter Tryz.func129, Tryz.ntmps129
  go_wp2_with fail
  have hb0 : Below w.heap.size w (w.alloc (.cells #[.int .i64 x, .slice sa m.length sc] 44)) := (Below.refl _ _).alloc (Nat.le_refl _) _
  have d0 := box0 w (.int .i64 x) (.slice sa m.length sc) 44
  have d1 := box1 w (.int .i64 x) (.slice sa m.length sc) 44
  have hlt := box_lt w (.cells #[.int .i64 x, .slice sa m.length sc] 44)
  have hW1 := h.below hb0
  generalize w.alloc (.cells #[.int .i64 x, .slice sa m.length sc] 44) = W1 at *
  refine (size_any W0 W1 b s l hW1).mono ?_
  rintro e w1 ⟨rfl, rfl⟩
  by_cases h0 : 0 < l.length
  · have h0' : ((l.length : Int) == 0) = false := by rw [beq_eq_false_iff_ne]; omega
    go_wp2_with fail
    refine (last_any W0 _ b s l hW1 h0).mono ?_
    rintro e w2 ⟨⟨v2, rfl, sb, sd, rfl, hcap2, hrow2⟩, b2⟩
    have B2 : Below w.heap.size w w2 := hb0.trans (b2.mono hb0.size)
    have BW : Below W0.heap.size W0 w2 := hW.trans (B2.mono hz)
    replace d0 := cell_on b2 hlt d0
    replace d1 := cell_on b2 hlt d1
    have hs1 := hl (l.length - 1) (by omega)
    have hlt2 : w.heap.size < w2.heap.size := Nat.lt_of_lt_of_le hlt b2.size
    generalize hq : l[l.length - 1] = q at *
    obtain ⟨q1, q2⟩ := q
    simp only at hs1 hcap2 hrow2
    have HG : Hid (∀ P : List (ByteArray × Int) → Prop, P q2 → P (l[l.length - 1]'(by omega)).2) := fun P hP => by rw [hq]; exact hP
    have hfd := field_stamp q1 sb q2.length sd
    clear b2 hW1 hq
    go_wp2_with fail
    refine (same_any sb sa sd sc q2 m _ hcap2 hcap (hrow2.below BW) (hrow.below BW) hs1 hm).mono ?_
    rintro e w3 ⟨⟨r, rfl, hr⟩, b3⟩
    have B3 : Below w.heap.size w w3 := B2.trans (b3.mono B2.size)
    have BW3 : Below W0.heap.size W0 w3 := hW.trans (B3.mono hz)
    replace d0 := cell_on b3 hlt2 d0
    replace d1 := cell_on b3 hlt2 d1
    have HR : Hid (r = true ↔ namesM q2 = namesM m) := hr
    clear hr b3
    cases r
    · have HN : Hid (¬ ∀ h : 0 < l.length, AboveP (l[l.length - 1]'(by omega)).2 m) := fun h => by
        have h1 := HG.out (fun z => ¬ AboveP z m) (fun z => by simpa using HR.out.2 z.1)
        exact h1 (h h0)
      clear HR HG
      go_wp2_with fail
      go_ret
      exact ⟨isB_false HN.out, B3⟩
    · go_wp2_with fail
      refine (implOrder_any sb sa sd sc q2 m _ (stamp_fit hs1).1 (stamp_fit hm).1 hcap2 hcap (hrow2.below BW3) (hrow.below BW3) (stamp_fit hs1).2 (stamp_fit hm).2).mono ?_
      rintro e w4 ⟨⟨v, rfl, hv⟩, b4⟩
      have B4 : Below w.heap.size w w4 := B3.trans (b4.mono B3.size)
      have HV : Hid (v = 1 ↔ (StampP q2 ∧ StampP m ∧ BelowP q2 m ∧ ¬ BelowP m q2)) := ord_less hv
      clear hv
      go_wp2_with fail
      go_ret
      refine ⟨⟨v == 1, rfl, ?_⟩, B4⟩
      rw [beq_iff_eq, HV.out]
      constructor
      · intro h _
        exact HG.out (fun z => AboveP z m) ⟨HR.out.1 (by trivial), h⟩
      · intro h
        have h1 := HG.out (fun z => AboveP z m → (StampP q2 ∧ StampP m ∧ BelowP q2 m ∧ ¬ BelowP m q2)) (fun z => z.2)
        exact h1 (h h0)
  · have h0' : ((l.length : Int) == 0) = true := by rw [beq_iff_eq]; omega
    go_wp2_with fail
    go_ret
    exact ⟨isB_true (fun q => absurd q h0), hb0⟩

/-- The value of a window that is handed on: its items' marks lie in W0. -/
def WinV (W0 : World) (v : Value) (l : List ItemL) : Prop := ∃ (x0 x1 x2 x3 : Int) (a0 a1 a2 a3 : Option Addr) (n0 n1 n2 n3 c0 c1 c2 c3 : Nat),
  v = .agg #[.int .i64 x0, .slice a0 n0 c0, .int .i64 x1, .slice a1 n1 c1, .int .i64 x2, .slice a2 n2 c2, .int .i64 x3, .slice a3 n3 c3, .int .i64 0, .int .i64 l.length] ∧ l.length ≤ 4 ∧
    ∀ k, (h : k < l.length) → [x0, x1, x2, x3][k]? = some l[k].1 ∧ ∃ a n c, [(a0, n0, c0), (a1, n1, c1), (a2, n2, c2), (a3, n3, c3)][k]? = some (a, n, c) ∧ IsSl W0 (.slice a n c) l[k].2

theorem winV_of {W0 : World} {f : Nat → Value} {l : List ItemL} (h4 : l.length ≤ 4) {x0 x1 x2 x3 : Int} {a0 a1 a2 a3 : Option Addr} {n0 n1 n2 n3 c0 c1 c2 c3 : Nat}
    (p0 : f (0 * 2) = .int .i64 x0) (p1 : f (0 * 2 + 1) = .slice a0 n0 c0) (p2 : f (1 * 2) = .int .i64 x1) (p3 : f (1 * 2 + 1) = .slice a1 n1 c1) (p4 : f (2 * 2) = .int .i64 x2) (p5 : f (2 * 2 + 1) = .slice a2 n2 c2) (p6 : f (3 * 2) = .int .i64 x3) (p7 : f (3 * 2 + 1) = .slice a3 n3 c3)
    (hf : ∀ k, (h : k < l.length) → f ((0 + k) % 4 * 2) = .int .i64 l[k].1 ∧ ∃ v, f ((0 + k) % 4 * 2 + 1) = v ∧ IsSl W0 v l[k].2) :
    WinV W0 (.agg #[.int .i64 x0, .slice a0 n0 c0, .int .i64 x1, .slice a1 n1 c1, .int .i64 x2, .slice a2 n2 c2, .int .i64 x3, .slice a3 n3 c3, .int .i64 0, .int .i64 l.length]) l := by
  refine ⟨x0, x1, x2, x3, a0, a1, a2, a3, n0, n1, n2, n3, c0, c1, c2, c3, rfl, h4, fun k hk => ?_⟩
  rcases (by omega : k = 0 ∨ k = 1 ∨ k = 2 ∨ k = 3) with rfl | rfl | rfl | rfl
  · obtain ⟨q1, v, q2, q3⟩ := hf 0 hk
    have e1 : x0 = l[0].1 := by have h := p0.symm.trans q1; simpa using h
    have e2 : v = .slice a0 n0 c0 := q2.symm.trans p1
    exact ⟨by rw [← e1]; rfl, a0, n0, c0, rfl, by rw [← e2]; exact q3⟩
  · obtain ⟨q1, v, q2, q3⟩ := hf 1 hk
    have e1 : x1 = l[1].1 := by have h := p2.symm.trans q1; simpa using h
    have e2 : v = .slice a1 n1 c1 := q2.symm.trans p3
    exact ⟨by rw [← e1]; rfl, a1, n1, c1, rfl, by rw [← e2]; exact q3⟩
  · obtain ⟨q1, v, q2, q3⟩ := hf 2 hk
    have e1 : x2 = l[2].1 := by have h := p4.symm.trans q1; simpa using h
    have e2 : v = .slice a2 n2 c2 := q2.symm.trans p5
    exact ⟨by rw [← e1]; rfl, a2, n2, c2, rfl, by rw [← e2]; exact q3⟩
  · obtain ⟨q1, v, q2, q3⟩ := hf 3 hk
    have e1 : x3 = l[3].1 := by have h := p6.symm.trans q1; simpa using h
    have e2 : v = .slice a3 n3 c3 := q2.symm.trans p7
    exact ⟨by rw [← e1]; rfl, a3, n3, c3, rfl, by rw [← e2]; exact q3⟩
/-- A window's value that lies in a block of its own is a ring that begins at its first slot. -/
theorem WinV.ring {W0 : World} {v : Value} {l : List ItemL} (h : WinV W0 v l) : ∃ cs : Array Value, v = .agg cs ∧ cs.size = 10 ∧ ∀ (w : World) (b : Nat), W0.heap.size ≤ b → w.rowIs b 190 10 (fun i => (cs[i]?).getD undef) → WinB W0 w b 0 l := by
  obtain ⟨x0, x1, x2, x3, a0, a1, a2, a3, n0, n1, n2, n3, c0, c1, c2, c3, rfl, h4, hk⟩ := h
  refine ⟨_, rfl, rfl, fun w b hb hr => ⟨hb, by omega, h4, _, ⟨hr, fun i hi => ?_⟩, rfl, rfl, fun k h => ?_⟩⟩
  · rcases (by omega : i = 0 ∨ i = 1 ∨ i = 2 ∨ i = 3) with rfl | rfl | rfl | rfl
    · exact ⟨_, _, _, _, rfl, rfl⟩
    · exact ⟨_, _, _, _, rfl, rfl⟩
    · exact ⟨_, _, _, _, rfl, rfl⟩
    · exact ⟨_, _, _, _, rfl, rfl⟩
  · rcases (by omega : k = 0 ∨ k = 1 ∨ k = 2 ∨ k = 3) with rfl | rfl | rfl | rfl
    · obtain ⟨q1, a, n, c, q2, q3⟩ := hk 0 h
      obtain ⟨rfl, rfl, rfl⟩ : a0 = a ∧ n0 = n ∧ c0 = c := by simpa using q2
      have e1 : x0 = l[0].1 := by simpa using q1
      exact ⟨by rw [← e1]; rfl, _, rfl, q3⟩
    · obtain ⟨q1, a, n, c, q2, q3⟩ := hk 1 h
      obtain ⟨rfl, rfl, rfl⟩ : a1 = a ∧ n1 = n ∧ c1 = c := by simpa using q2
      have e1 : x1 = l[1].1 := by simpa using q1
      exact ⟨by rw [← e1]; rfl, _, rfl, q3⟩
    · obtain ⟨q1, a, n, c, q2, q3⟩ := hk 2 h
      obtain ⟨rfl, rfl, rfl⟩ : a2 = a ∧ n2 = n ∧ c2 = c := by simpa using q2
      have e1 : x2 = l[2].1 := by simpa using q1
      exact ⟨by rw [← e1]; rfl, _, rfl, q3⟩
    · obtain ⟨q1, a, n, c, q2, q3⟩ := hk 3 h
      obtain ⟨rfl, rfl, rfl⟩ : a3 = a ∧ n3 = n ∧ c3 = c := by simpa using q2
      have e1 : x3 = l[3].1 := by simpa using q1
      exact ⟨by rw [← e1]; rfl, _, rfl, q3⟩

/-- The same, in a block that is just laid. -/
theorem WinV.laid {W0 : World} {v : Value} {l : List ItemL} (h : WinV W0 v l) : ∃ (x0 x1 x2 x3 : Int) (a0 a1 a2 a3 : Option Addr) (n0 n1 n2 n3 c0 c1 c2 c3 : Nat), v = .agg #[.int .i64 x0, .slice a0 n0 c0, .int .i64 x1, .slice a1 n1 c1, .int .i64 x2, .slice a2 n2 c2, .int .i64 x3, .slice a3 n3 c3, .int .i64 0, .int .i64 l.length] ∧
    ∀ w : World, W0.heap.size ≤ w.heap.size → WinB W0 (w.alloc (.cells #[.int .i64 x0, .slice a0 n0 c0, .int .i64 x1, .slice a1 n1 c1, .int .i64 x2, .slice a2 n2 c2, .int .i64 x3, .slice a3 n3 c3, .int .i64 0, .int .i64 l.length] 190)) w.heap.size 0 l := by
  obtain ⟨cs, hv, hs, hw⟩ := h.ring
  obtain ⟨x0, x1, x2, x3, a0, a1, a2, a3, n0, n1, n2, n3, c0, c1, c2, c3, rfl, h4, hk⟩ := h
  obtain rfl : #[.int .i64 x0, .slice a0 n0 c0, .int .i64 x1, .slice a1 n1 c1, .int .i64 x2, .slice a2 n2 c2, .int .i64 x3, .slice a3 n3 c3, .int .i64 0, .int .i64 l.length] = cs := by simpa using hv
  exact ⟨x0, x1, x2, x3, a0, a1, a2, a3, n0, n1, n2, n3, c0, c1, c2, c3, rfl, fun w hW => hw _ _ hW (World.rowIs_alloc w _ 190 _ (fun i hi => by simp only [Array.getElem?_eq_getElem hi, Option.getD_some]))⟩

/-- What a call of readWindow ends with. -/
def ReadE (W0 : World) (l : List ItemL) (e : Ending) : Prop := (∃ v, e = .returned (.tuple #[v, .bool true]) ∧ WinP l ∧ WinV W0 v l) ∨ (∃ v, e = .returned (.tuple #[v, .bool false]) ∧ ¬ WinP l ∧ WinV W0 v [])

abbrev zero10 : Array Value := #[.int .i64 0, .slice none 0 0, .int .i64 0, .slice none 0 0, .int .i64 0, .slice none 0 0, .int .i64 0, .slice none 0 0, .int .i64 0, .int .i64 0]
theorem winV_zero (W0 : World) : WinV W0 (.agg zero10) [] := ⟨0, 0, 0, 0, none, none, none, none, 0, 0, 0, 0, 0, 0, 0, 0, rfl, Nat.zero_le _, fun k h => absurd h (Nat.not_lt_zero k)⟩

theorem winB_new (W0 w : World) (h : W0.heap.size ≤ w.heap.size) : WinB W0 (w.alloc (.cells zero10 190)) w.heap.size 0 [] := by
  refine ⟨h, by omega, Nat.zero_le _, fun i => (zero10[i]?).getD undef, ⟨?_, ?_⟩, rfl, rfl, fun k h => absurd h (Nat.not_lt_zero k)⟩
  · exact World.rowIs_alloc w zero10 190 _ (fun i hi => by simp [Array.getElem?_eq_getElem hi])
  · intro i hi
    match i, hi with
    | 0, _ => exact ⟨0, none, 0, 0, rfl, rfl⟩
    | 1, _ => exact ⟨0, none, 0, 0, rfl, rfl⟩
    | 2, _ => exact ⟨0, none, 0, 0, rfl, rfl⟩
    | 3, _ => exact ⟨0, none, 0, 0, rfl, rfl⟩

/-- Block 'H' is a window of noughts. -/
def ZeroB (w : World) (H : Nat) : Prop := w.rowIs H 190 10 (fun i => (zero10[i]?).getD undef)
theorem zeroB_new (w : World) : ZeroB (w.alloc (.cells zero10 190)) w.heap.size := World.rowIs_alloc w zero10 190 _ (fun i hi => by simp [Array.getElem?_eq_getElem hi])
theorem ZeroB.cells {w : World} {H : Nat} (h : ZeroB w H) : w.cell? ⟨H, 0, none⟩ = some (.int .i64 0) ∧ w.cell? ⟨H, 1, none⟩ = some (.slice none 0 0) ∧ w.cell? ⟨H, 2, none⟩ = some (.int .i64 0) ∧ w.cell? ⟨H, 3, none⟩ = some (.slice none 0 0) ∧ w.cell? ⟨H, 4, none⟩ = some (.int .i64 0) ∧ w.cell? ⟨H, 5, none⟩ = some (.slice none 0 0) ∧ w.cell? ⟨H, 6, none⟩ = some (.int .i64 0) ∧ w.cell? ⟨H, 7, none⟩ = some (.slice none 0 0) ∧ w.cell? ⟨H, 8, none⟩ = some (.int .i64 0) ∧ w.cell? ⟨H, 9, none⟩ = some (.int .i64 0) :=
  ⟨h.cell (by decide), h.cell (by decide), h.cell (by decide), h.cell (by decide), h.cell (by decide), h.cell (by decide), h.cell (by decide), h.cell (by decide), h.cell (by decide), h.cell (by decide)⟩
theorem ZeroB.free {w : World} {H : Nat} (h : ZeroB w H) : w.frozen? ⟨H, 0, none⟩ = false ∧ w.frozen? ⟨H, 1, none⟩ = false ∧ w.frozen? ⟨H, 2, none⟩ = false ∧ w.frozen? ⟨H, 3, none⟩ = false ∧ w.frozen? ⟨H, 4, none⟩ = false ∧ w.frozen? ⟨H, 5, none⟩ = false ∧ w.frozen? ⟨H, 6, none⟩ = false ∧ w.frozen? ⟨H, 7, none⟩ = false ∧ w.frozen? ⟨H, 8, none⟩ = false ∧ w.frozen? ⟨H, 9, none⟩ = false :=
  ⟨h.frozen _, h.frozen _, h.frozen _, h.frozen _, h.frozen _, h.frozen _, h.frozen _, h.frozen _, h.frozen _, h.frozen _⟩
theorem ZeroB.below {w w' : World} {H : Nat} (h : ZeroB w H) (hb : Below w.heap.size w w') : ZeroB w' H := World.rowIs.of_block h (hb.block H (World.rowIs.lt h))
theorem ZeroB.but {w w' : World} {H b : Nat} (h : ZeroB w H) (hb : But b w w') (hne : H ≠ b) : ZeroB w' H := World.rowIs.of_block h (hb.block H (World.rowIs.lt h) hne)
theorem stamps_take {l : List ItemL} {k : Nat} (h : WinTo l k) : ∀ j, (hj : j < (l.take k).length) → StampP (l.take k)[j].2 := fun j hj => by
  rw [List.length_take] at hj
  rw [List.getElem_take]
  exact (h.1 j (by omega) (by omega)).1

theorem take_above {l : List ItemL} {k : Nat} (h : WinP l) (hk : k < l.length) : ∀ h0 : 0 < (l.take k).length, AboveP ((l.take k)[(l.take k).length - 1]'(by omega)).2 l[k].2 := fun h0 => by
  have e : (l.take k).length = k := by rw [List.length_take]; omega
  have e2 : (l.take k)[(l.take k).length - 1]'(by omega) = l[k - 1]'(by omega) := by rw [List.getElem_take]; congr 1; omega
  rw [e2]
  exact winP_above h (by omega) hk
theorem above_take {l : List ItemL} {k : Nat} (hk : k < l.length) (h0 : 0 < k) (h : ∀ h0 : 0 < (l.take k).length, AboveP ((l.take k)[(l.take k).length - 1]'(by omega)).2 l[k].2) : AboveP (l[k - 1]'(by omega)).2 l[k].2 := by
  have e : (l.take k).length = k := by rw [List.length_take]; omega
  have e2 : (l.take k)[(l.take k).length - 1]'(by omega) = l[k - 1]'(by omega) := by rw [List.getElem_take]; congr 1; omega
  rw [← e2]
  exact h (by omega)
/-- Ten cells of one block are written. -/
def put10 (w : World) (H : Nat) (v0 v1 v2 v3 v4 v5 v6 v7 v8 v9 : Value) : World := (((((((((w.setCell ⟨H, 0, none⟩ v0).setCell ⟨H, 1, none⟩ v1).setCell ⟨H, 2, none⟩ v2).setCell ⟨H, 3, none⟩ v3).setCell ⟨H, 4, none⟩ v4).setCell ⟨H, 5, none⟩ v5).setCell ⟨H, 6, none⟩ v6).setCell ⟨H, 7, none⟩ v7).setCell ⟨H, 8, none⟩ v8).setCell ⟨H, 9, none⟩ v9
theorem put10_cells {w : World} {H : Nat} {f : Nat → Value} (h : w.rowIs H 190 10 f) (v0 v1 v2 v3 v4 v5 v6 v7 v8 v9 : Value) : (put10 w H v0 v1 v2 v3 v4 v5 v6 v7 v8 v9).cell? ⟨H, 0, none⟩ = some v0 ∧ (put10 w H v0 v1 v2 v3 v4 v5 v6 v7 v8 v9).cell? ⟨H, 1, none⟩ = some v1 ∧ (put10 w H v0 v1 v2 v3 v4 v5 v6 v7 v8 v9).cell? ⟨H, 2, none⟩ = some v2 ∧ (put10 w H v0 v1 v2 v3 v4 v5 v6 v7 v8 v9).cell? ⟨H, 3, none⟩ = some v3 ∧ (put10 w H v0 v1 v2 v3 v4 v5 v6 v7 v8 v9).cell? ⟨H, 4, none⟩ = some v4 ∧ (put10 w H v0 v1 v2 v3 v4 v5 v6 v7 v8 v9).cell? ⟨H, 5, none⟩ = some v5 ∧ (put10 w H v0 v1 v2 v3 v4 v5 v6 v7 v8 v9).cell? ⟨H, 6, none⟩ = some v6 ∧ (put10 w H v0 v1 v2 v3 v4 v5 v6 v7 v8 v9).cell? ⟨H, 7, none⟩ = some v7 ∧ (put10 w H v0 v1 v2 v3 v4 v5 v6 v7 v8 v9).cell? ⟨H, 8, none⟩ = some v8 ∧ (put10 w H v0 v1 v2 v3 v4 v5 v6 v7 v8 v9).cell? ⟨H, 9, none⟩ = some v9 := by
  have R := ((((((((((h.set 0 v0).set 1 v1).set 2 v2).set 3 v3).set 4 v4).set 5 v5).set 6 v6).set 7 v7).set 8 v8).set 9 v9)
  exact ⟨R.cell (by decide), R.cell (by decide), R.cell (by decide), R.cell (by decide), R.cell (by decide), R.cell (by decide), R.cell (by decide), R.cell (by decide), R.cell (by decide), R.cell (by decide)⟩
theorem put10_below {B H : Nat} {x w : World} (hb : Below B x w) (hB : B ≤ H) (v0 v1 v2 v3 v4 v5 v6 v7 v8 v9 : Value) : Below B x (put10 w H v0 v1 v2 v3 v4 v5 v6 v7 v8 v9) := ((((((((((hb.setCell (p := ⟨H, 0, none⟩) hB v0).setCell (p := ⟨H, 1, none⟩) hB v1).setCell (p := ⟨H, 2, none⟩) hB v2).setCell (p := ⟨H, 3, none⟩) hB v3).setCell (p := ⟨H, 4, none⟩) hB v4).setCell (p := ⟨H, 5, none⟩) hB v5).setCell (p := ⟨H, 6, none⟩) hB v6).setCell (p := ⟨H, 7, none⟩) hB v7).setCell (p := ⟨H, 8, none⟩) hB v8).setCell (p := ⟨H, 9, none⟩) hB v9)

set_option maxHeartbeats 3200000 in
theorem readWindow_any (a : Option Addr) (cap : Nat) (l : List ItemL) (w : World) (hf : FitI l) (hr : RowI w a l) :
    Calls Tryz.prog 127 #[.slice a l.length cap] w fun e w' => ReadE w l e ∧ Below w.heap.size w w' := by
  have hl := hf.1
  unfold maxLen at hl
  by_cases h4 : 4 < l.length
  · have HN : Hid (¬ WinP l) := fun h => by have := h.1; omega
    go_enter Tryz.func127, Tryz.ntmps127
    go_wp2_with fail
    exact bodyPost_ret (v := .tuple #[.agg zero10, .bool false]) (by simp [results, Tryz.results127, go_sem]) rfl ⟨.inr ⟨_, rfl, HN.out, winV_zero _⟩, ((Below.refl _ _).alloc (Nat.le_refl _) _).alloc (by simp) _⟩
  go_enter Tryz.func127, Tryz.ntmps127
  go_wp2_with fail
  have hA1 : Below w.heap.size w (w.alloc (.cells zero10 190)) := (Below.refl _ _).alloc (Nat.le_refl _) _
  have hA2 : Below w.heap.size w ((w.alloc (.cells zero10 190)).alloc (.cells zero10 190)) := hA1.alloc hA1.size _
  have hZ : ZeroB ((w.alloc (.cells zero10 190)).alloc (.cells zero10 190)) w.heap.size := (zeroB_new w).below ((Below.refl _ _).alloc (Nat.le_refl _) _)
  have hWn : WinB w ((w.alloc (.cells zero10 190)).alloc (.cells zero10 190)) (w.heap.size + 1) 0 [] := by
    have h := winB_new w (w.alloc (.cells zero10 190)) hA1.size
    rw [World.size_alloc] at h
    exact h
  go_loopw [13] (fun i wr => ∃ k : Nat, k ≤ l.length ∧ i = .int .i64 k ∧ WinB w wr (w.heap.size + 1) 0 (l.take k) ∧ Hid (WinTo l k) ∧ ZeroB wr w.heap.size ∧ Below w.heap.size w wr) (fun i _ => l.length - (intOf i).toNat)
  case atStart => exact ⟨0, Nat.zero_le _, rfl, hWn, winTo_zero l, hZ, hA2⟩
  case round =>
    obtain ⟨k, hk, rfl, hW, HTO, hz, hb⟩ := hrel
    clear hA1 hA2 hZ hWn
    by_cases hlt : k < l.length
    · obtain ⟨b1, o1, rfl, g1, e0, v1, e1, ⟨s1, t1, rfl, hc1, r1⟩⟩ := hr k hlt
      have k0 : (0 : Int) ≤ (k : Int) := by omega
      have k1 : (k : Int) < (l.length : Int) := by omega
      have x0 := cell_on hb g1 e0
      have x1 := cell_on hb g1 e1
      have fk := hf.2 k hlt
      clear e0 e1
      go_wp2_with fail
      have hb0 : Below wr.heap.size wr (wr.alloc (.cells #[.int .i64 l[k].1, .slice s1 l[k].2.length t1] 44)) := (Below.refl _ _).alloc (Nat.le_refl _) _
      have d0 := box0 wr (.int .i64 l[k].1) (.slice s1 l[k].2.length t1) 44
      have d1 := box1 wr (.int .i64 l[k].1) (.slice s1 l[k].2.length t1) 44
      have hlt0 := box_lt wr (.cells #[.int .i64 l[k].1, .slice s1 l[k].2.length t1] 44)
      replace hW := hW.below hb0
      replace hz := hz.below hb0
      have B1 : Below w.heap.size w (wr.alloc (.cells #[.int .i64 l[k].1, .slice s1 l[k].2.length t1] 44)) := hb.trans (hb0.mono hb.size)
      generalize hq : wr.heap.size = q at *
      generalize wr.alloc (.cells #[.int .i64 l[k].1, .slice s1 l[k].2.length t1] 44) = W1 at *
      clear hb0 x0 x1 hq hb
      refine (itemOk_any l[k].1 s1 t1 l[k].2 W1 (r1.below B1) fk).mono ?_
      rintro e w2 ⟨⟨r, rfl, hr2⟩, b2⟩
      replace hW := hW.below b2
      replace hz := hz.below b2
      replace d0 := cell_on b2 hlt0 d0
      replace d1 := cell_on b2 hlt0 d1
      have B2 : Below w.heap.size w w2 := B1.trans (b2.mono B1.size)
      have hlt2 : q < w2.heap.size := Nat.lt_of_lt_of_le hlt0 b2.size
      have HR2 : Hid (r = true ↔ StampP l[k].2 ∧ l[k].2 ≠ []) := hr2
      clear hr2 b2 B1 hlt0
      cases r
      · have HN : Hid (¬ WinP l) := fun h => by simpa using HR2.out.2 (h.2.1 k hlt)
        obtain ⟨z0, z1, z2, z3, z4, z5, z6, z7, z8, z9⟩ := hz.cells
        obtain ⟨y0, y1, y2, y3, y4, y5, y6, y7, y8, y9⟩ := hz.free
        have HY : Hid _ := put10_cells hz (.int .i64 0) (.slice none 0 0) (.int .i64 0) (.slice none 0 0) (.int .i64 0) (.slice none 0 0) (.int .i64 0) (.slice none 0 0) (.int .i64 0) (.int .i64 0)
        clear HR2 hz hW
        go_wp2_with fail
        obtain ⟨Y0, Y1, Y2, Y3, Y4, Y5, Y6, Y7, Y8, Y9⟩ := HY.out
        unfold put10 at Y0 Y1 Y2 Y3 Y4 Y5 Y6 Y7 Y8 Y9
        exact bodyPost_ret (v := .tuple #[.agg zero10, .bool false]) (by simp [results, Tryz.results127, go_sem, Y0, Y1, Y2, Y3, Y4, Y5, Y6, Y7, Y8, Y9]) rfl ⟨.inr ⟨_, rfl, HN.out, winV_zero _⟩, put10_below B2 (Nat.le_refl _) _ _ _ _ _ _ _ _ _ _⟩
      · go_wp2_with fail
        refine (takes_any w w2 _ 0 (l.take k) l[k].1 _ l[k].2 hW B2 (stamps_take HTO.out) ⟨s1, t1, rfl, hc1, r1⟩ (HR2.out.1 (by trivial)).1).mono ?_
        rintro e w3 ⟨⟨r, rfl, hr3⟩, b3⟩
        replace hW := hW.below b3
        replace hz := hz.below b3
        replace d0 := cell_on b3 hlt2 d0
        replace d1 := cell_on b3 hlt2 d1
        have B3 : Below w.heap.size w w3 := B2.trans (b3.mono B2.size)
        have HR3 : Hid (r = true ↔ ∀ h : 0 < (l.take k).length, AboveP ((l.take k)[(l.take k).length - 1]'(by omega)).2 l[k].2) := hr3
        clear hr3 b3 B2 hlt2
        cases r
        · have HN : Hid (¬ WinP l) := fun h => by
            have h3 := HR3.out.2 (take_above h hlt)
            simp at h3
          obtain ⟨z0, z1, z2, z3, z4, z5, z6, z7, z8, z9⟩ := hz.cells
          obtain ⟨y0, y1, y2, y3, y4, y5, y6, y7, y8, y9⟩ := hz.free
          have HY : Hid _ := put10_cells hz (.int .i64 0) (.slice none 0 0) (.int .i64 0) (.slice none 0 0) (.int .i64 0) (.slice none 0 0) (.int .i64 0) (.slice none 0 0) (.int .i64 0) (.int .i64 0)
          clear HR2 HR3 hz hW
          go_wp2_with fail
          obtain ⟨Y0, Y1, Y2, Y3, Y4, Y5, Y6, Y7, Y8, Y9⟩ := HY.out
          unfold put10 at Y0 Y1 Y2 Y3 Y4 Y5 Y6 Y7 Y8 Y9
          exact bodyPost_ret (v := .tuple #[.agg zero10, .bool false]) (by simp [results, Tryz.results127, go_sem, Y0, Y1, Y2, Y3, Y4, Y5, Y6, Y7, Y8, Y9]) rfl ⟨.inr ⟨_, rfl, HN.out, winV_zero _⟩, put10_below B3 (Nat.le_refl _) _ _ _ _ _ _ _ _ _ _⟩
        · have HST : Hid (WinTo l (k + 1)) := winTo_step HTO.out hlt (HR2.out.1 (by trivial)) (fun h => above_take hlt h (HR3.out.1 (by trivial)))
          have HT : Hid (l.take (k + 1) = l.take k ++ [(l[k].1, l[k].2)]) := List.take_succ_eq_append_getElem hlt
          clear HR2 HR3 HTO
          go_wp2_with fail
          refine (push_room w w3 _ 0 (l.take k) l[k].1 _ l[k].2 hW ⟨s1, t1, rfl, hc1, r1⟩ (by rw [List.length_take]; omega)).mono ?_
          rintro e w4 ⟨rfl, hW4, b4⟩
          have hz4 := hz.but b4 (by omega)
          have B4 : Below w.heap.size w w4 := B3.trans (b4.below (by omega) B3.size)
          clear hW hz d0 d1 b4
          go_wp2_with fail
          exact ⟨⟨k + 1, by omega, by go_num, by rw [HT.out]; exact hW4, HST, hz4, B4⟩, by simp [intOf]; omega⟩
    · have HF : Hid (WinP l) := winP_of HTO.out hlt (by omega)
      rw [List.take_of_length_le (by omega)] at hW
      obtain ⟨z0, z1, z2, z3, z4, z5, z6, z7, z8, z9⟩ := hz.cells
      obtain ⟨y0, y1, y2, y3, y4, y5, y6, y7, y8, y9⟩ := hz.free
      obtain ⟨_, _, _, f, ⟨hrow, hsh⟩, e8, e9, hf'⟩ := hW
      obtain ⟨x0, a0, n0, c0, p0, p1⟩ := hsh 0 (by omega)
      obtain ⟨x1, a1, n1, c1, p2, p3⟩ := hsh 1 (by omega)
      obtain ⟨x2, a2, n2, c2, p4, p5⟩ := hsh 2 (by omega)
      obtain ⟨x3, a3, n3, c3, p6, p7⟩ := hsh 3 (by omega)
      have HV : Hid (WinV w (.agg #[.int .i64 x0, .slice a0 n0 c0, .int .i64 x1, .slice a1 n1 c1, .int .i64 x2, .slice a2 n2 c2, .int .i64 x3, .slice a3 n3 c3, .int .i64 0, .int .i64 l.length]) l) := winV_of (by omega) p0 p1 p2 p3 p4 p5 p6 p7 hf'
      have r0 : wr.cell? ⟨w.heap.size + 1, 0, none⟩ = some (.int .i64 x0) := by rw [hrow.cell (by omega), ← p0]
      have r1 : wr.cell? ⟨w.heap.size + 1, 1, none⟩ = some (.slice a0 n0 c0) := by rw [hrow.cell (by omega), ← p1]
      have r2 : wr.cell? ⟨w.heap.size + 1, 2, none⟩ = some (.int .i64 x1) := by rw [hrow.cell (by omega), ← p2]
      have r3 : wr.cell? ⟨w.heap.size + 1, 3, none⟩ = some (.slice a1 n1 c1) := by rw [hrow.cell (by omega), ← p3]
      have r4 : wr.cell? ⟨w.heap.size + 1, 4, none⟩ = some (.int .i64 x2) := by rw [hrow.cell (by omega), ← p4]
      have r5 : wr.cell? ⟨w.heap.size + 1, 5, none⟩ = some (.slice a2 n2 c2) := by rw [hrow.cell (by omega), ← p5]
      have r6 : wr.cell? ⟨w.heap.size + 1, 6, none⟩ = some (.int .i64 x3) := by rw [hrow.cell (by omega), ← p6]
      have r7 : wr.cell? ⟨w.heap.size + 1, 7, none⟩ = some (.slice a3 n3 c3) := by rw [hrow.cell (by omega), ← p7]
      have r8 : wr.cell? ⟨w.heap.size + 1, 8, none⟩ = some (.int .i64 0) := by rw [hrow.cell (by omega), e8]; rfl
      have r9 : wr.cell? ⟨w.heap.size + 1, 9, none⟩ = some (.int .i64 l.length) := by rw [hrow.cell (by omega), e9]
      have HY : Hid _ := put10_cells hz (.int .i64 x0) (.slice a0 n0 c0) (.int .i64 x1) (.slice a1 n1 c1) (.int .i64 x2) (.slice a2 n2 c2) (.int .i64 x3) (.slice a3 n3 c3) (.int .i64 0) (.int .i64 l.length)
      clear HTO hz hrow hsh e8 e9 hf' p0 p1 p2 p3 p4 p5 p6 p7 f
      go_wp2_with fail
      obtain ⟨Y0, Y1, Y2, Y3, Y4, Y5, Y6, Y7, Y8, Y9⟩ := HY.out
      unfold put10 at Y0 Y1 Y2 Y3 Y4 Y5 Y6 Y7 Y8 Y9
      exact bodyPost_ret (v := .tuple #[.agg #[.int .i64 x0, .slice a0 n0 c0, .int .i64 x1, .slice a1 n1 c1, .int .i64 x2, .slice a2 n2 c2, .int .i64 x3, .slice a3 n3 c3, .int .i64 0, .int .i64 l.length], .bool true]) (by simp [results, Tryz.results127, go_sem, Y0, Y1, Y2, Y3, Y4, Y5, Y6, Y7, Y8, Y9]) rfl ⟨.inl ⟨_, rfl, HF.out, HV.out⟩, put10_below hb (Nat.le_refl _) _ _ _ _ _ _ _ _ _ _⟩

end Go.Proofs.YtpfhegengmlkmacGreatDoor
