/- Texts of this claim, one behind the other. -/
import Derived.Test.YtpfhegengmlkmacGreatDoorItN
import Derived.Test.YtpfhegengmlkmacGreatDoorClone
import Derived.Deep.RegionHeld3
import Derived.Test.YtpfhegengmlkmacGreatDoorWinT
import Derived.Test.YtpfhegengmlkmacGreatDoorItK
import Derived.Test.YtpfhegengmlkmacGreatDoorGaL
import Derived.Test.YtpfhegengmlkmacGreatDoorWd
import Derived.Test.YtpfhegengmlkmacGreatDoorOnly
import Derived.Test.YtpfhegengmlkmacGreatDoorZGPOwn1
/- Walks: (Item).fresh, (*window).items. -/
namespace Go.Proofs.YtpfhegengmlkmacGreatDoor
open Go.RowKit Go.BigFrame
set_option maxRecDepth 100000

set_option maxHeartbeats 1600000 in
theorem freshMarks_any (a : Option Addr) (c : Nat) (l : List (ByteArray × Int)) (w : World) (hr : Row w a l) (hl : l.length ≤ 1048576) (hs : ∀ j, (h : j < l.length) → l[j].1.size ≤ 281474976710656) :
    Calls Tryz.prog 100 #[.slice a l.length c] w fun e w' => (∃ g cap, e = .returned (.slice (some ⟨g, 0, none⟩) l.length cap) ∧ w.heap.size ≤ g ∧ l.length ≤ cap ∧ Own w' g l) ∧ Below w.heap.size w w' := by
  obtain ⟨i0, hi, hz0, hz1, hz2⟩ := info_parts Tryz.infoM
  have hmk : ∀ u : World, (Instr.makeSlice 34 (.int .i64 0) (.int .i64 (l.length : Int))).run Tryz.prog u =
      .ok (.slice (some ⟨u.heap.size, 0, none⟩) 0 l.length) (u.alloc (.cells (madeCells #[.string .empty, .int .i64 0] (l.length * 2)) 144)) := fun u => by
    have h := run_make (P := Tryz.prog) u 34 144 i0 (.agg #[.string .empty, .int .i64 0]) Tryz.underlying34 hi hz0 .i64 .i64 0 (l.length : Int) (by omega) (by omega) (by rw [hz2]; omega) (by omega)
    simpa [hz1, Value.cells] using h
  go_enter Tryz.func100, Tryz.ntmps100
  go_wp2_with fail
  have hg0 : Gath (w.alloc (.cells (madeCells #[.string .empty, .int .i64 0] (l.length * 2)) 144)) w.heap.size (.slice (some ⟨w.heap.size, 0, none⟩) 0 l.length) [] :=
    ⟨rfl, .inr ⟨w.heap.size, l.length, madeCells #[.string .empty, .int .i64 0] (l.length * 2), rfl, Nat.le_refl _, heap_alloc_new w _, Nat.zero_le _, by unfold maxLen; omega, size_madeCells _ _, rfl⟩⟩
  have hb0 : Below w.heap.size w (w.alloc (.cells (madeCells #[.string .empty, .int .i64 0] (l.length * 2)) 144)) := (Below.refl _ _).alloc (Nat.le_refl _) _
  generalize (w.alloc (.cells (madeCells #[.string .empty, .int .i64 0] (l.length * 2)) 144)) = WA at *
  clear hmk
  go_loopw [3, 11] (fun out i wr => ∃ k : Nat, k ≤ l.length ∧ i = .int .i64 k ∧ (∃ g cap, out = .slice (some ⟨g, 0, none⟩) k cap ∧ Gath wr w.heap.size (.slice (some ⟨g, 0, none⟩) k cap) (l.take k)) ∧ Below w.heap.size w wr) (fun _ i _ => l.length - (intOf i).toNat)
  case atStart => exact ⟨0, Nat.zero_le _, rfl, ⟨_, _, rfl, hg0⟩, hb0⟩
  case round =>
    obtain ⟨k, hk, rfl, ⟨g, cap, rfl, hg⟩, hb⟩ := hrel
    have hz := hb.size
    by_cases hlt : k < l.length
    · obtain ⟨b, o, rfl, hblt, e0, e1⟩ := hr k hlt
      have x0 := cell_on hb hblt e0
      have x1 := cell_on hb hblt e1
      have k0 : (0 : Int) ≤ (k : Int) := by omega
      have k1 : (k : Int) < (l.length : Int) := by omega
      have hsk := hs k hlt
      have HT : Hid (l.take (k + 1) = l.take k ++ [(l[k].1, l[k].2)]) := List.take_succ_eq_append_getElem hlt
      have htl : (l.take k).length = k := by rw [List.length_take]; omega
      clear e0 e1
      go_wp2_with fail
      have hbx : Below wr.heap.size wr (wr.alloc (.cells #[.string l[k].1, .int .i64 l[k].2] 144)) := (Below.refl _ _).alloc (Nat.le_refl _) _
      refine (fresh_any l[k].1 l[k].2 _ hsk).mono ?_
      rintro e w2 ⟨rfl, b2⟩
      have b2' : Below wr.heap.size wr w2 := hbx.trans (b2.mono hbx.size)
      have hg2 := hg.keep b2'
      have z2 := b2'.size
      have B2 : Below w.heap.size w w2 := hb.trans (b2'.mono hz)
      clear hg b2 b2' hbx hb x0 x1
      go_wp2_with (at_builtin; refine wpList_append_lies _ rfl _ _ 34 rfl w.heap.size 144 i0 (.agg #[.string .empty, .int .i64 0]) 2 24 Tryz.underlying34 hi hz0 hz1 hz2 rfl (by decide) _ _ _ rfl (hg2.alloc _) ⟨w2.heap.size, 0, none⟩ 1 1 [.string l[k].1, .int .i64 l[k].2] rfl rfl (two_new w2 _ _ _) (by simp [Value.oneCell']) (by decide) (by unfold maxLen; omega) (by omega) (by simp; omega) _ rfl ?_; intro g' cap' wx hown' hgrow _ _)
      have hb10 := Gath.grown (W := w) (B := w.heap.size) (w := w2.alloc (.cells #[.string l[k].1, .int .i64 l[k].2] 144)) (hg2.alloc _) (B2.alloc (by omega) _) (by simp; omega) hgrow
      have hg10 := Gath.snoc hown'
      rw [htl] at hg10
      exact ⟨⟨k + 1, by omega, by go_num, ⟨_, _, rfl, by rw [HT.out]; exact hg10⟩, hb10⟩, by simp [intOf]; omega⟩
    · obtain rfl : k = l.length := by omega
      rw [List.take_of_length_le (Nat.le_refl _)] at hg
      obtain ⟨hgB, hgc, ho⟩ := gath_own hg
      go_wp2_with fail
      go_ret
      exact ⟨⟨g, cap, rfl, hgB, hgc, ho⟩, hb⟩

set_option maxHeartbeats 1600000 in
theorem freshItem_any (x : Int) (a : Option Addr) (c : Nat) (l : List (ByteArray × Int)) (w : World) (hr : Row w a l) (hl : l.length ≤ 1048576) (hs : ∀ j, (h : j < l.length) → l[j].1.size ≤ 281474976710656) :
    Calls Tryz.prog 170 #[.agg #[.int .i64 x, .slice a l.length c]] w fun e w' => (∃ g cap, e = .returned (.agg #[.int .i64 x, .slice (some ⟨g, 0, none⟩) l.length cap]) ∧ w.heap.size ≤ g ∧ l.length ≤ cap ∧ Own w' g l) ∧ Below w.heap.size w w' := by
  go_enter Tryz.func170, Tryz.ntmps170
  go_wp2_with fail
  have hb0 : Below w.heap.size w ((w.alloc (.cells #[.int .i64 x, .slice a l.length c] 44)).alloc (.cells #[.int .i64 0, .slice none 0 0] 44)) := ((Below.refl _ _).alloc (Nat.le_refl _) _).alloc (by simp) _
  have hsz : ((w.alloc (.cells #[.int .i64 x, .slice a l.length c] 44)).alloc (.cells #[.int .i64 0, .slice none 0 0] 44)).heap.size = w.heap.size + 2 := by simp
  have c0 : ((w.alloc (.cells #[.int .i64 x, .slice a l.length c] 44)).alloc (.cells #[.int .i64 0, .slice none 0 0] 44)).cell? ⟨w.heap.size, 0, none⟩ = some (.int .i64 x) := by simp [go_sem]
  have c1 : ((w.alloc (.cells #[.int .i64 x, .slice a l.length c] 44)).alloc (.cells #[.int .i64 0, .slice none 0 0] 44)).cell? ⟨w.heap.size, 1, none⟩ = some (.slice a l.length c) := by simp [go_sem]
  have d0 : ((w.alloc (.cells #[.int .i64 x, .slice a l.length c] 44)).alloc (.cells #[.int .i64 0, .slice none 0 0] 44)).cell? ⟨w.heap.size + 1, 0, none⟩ = some (.int .i64 0) := by simp [go_sem]
  have d1 : ((w.alloc (.cells #[.int .i64 x, .slice a l.length c] 44)).alloc (.cells #[.int .i64 0, .slice none 0 0] 44)).cell? ⟨w.heap.size + 1, 1, none⟩ = some (.slice none 0 0) := by simp [go_sem]
  have f0 : ((w.alloc (.cells #[.int .i64 x, .slice a l.length c] 44)).alloc (.cells #[.int .i64 0, .slice none 0 0] 44)).frozen? ⟨w.heap.size + 1, 0, none⟩ = false := by simp [go_sem]
  have f1 : ((w.alloc (.cells #[.int .i64 x, .slice a l.length c] 44)).alloc (.cells #[.int .i64 0, .slice none 0 0] 44)).frozen? ⟨w.heap.size + 1, 1, none⟩ = false := by simp [go_sem]
  generalize ((w.alloc (.cells #[.int .i64 x, .slice a l.length c] 44)).alloc (.cells #[.int .i64 0, .slice none 0 0] 44)) = WA at *
  have SW : WA.drew.cell? ⟨w.heap.size, 0, none⟩ = some (.int .i64 x) ∧ WA.drew.cell? ⟨w.heap.size, 1, none⟩ = some (.slice a l.length c) := ⟨c0, c1⟩
  refine wp_region_held_drew (S := fun u => u.cell? ⟨w.heap.size, 0, none⟩ = some (.int .i64 x) ∧ u.cell? ⟨w.heap.size, 1, none⟩ = some (.slice a l.length c)) (by kernel_rfl) SW (fun _ => ?_)
  refine wpAnyH_take (i := 0) (v := .pointer (some ⟨w.heap.size, 0, none⟩)) rfl (by kernel_rfl) (by kernel_rfl) (by kernel_rfl) (fun _ _ _ h => h) (Or.inl ⟨by rfl, ?_⟩) SW ?_
  · rintro u ⟨q1, q2⟩
    go_simp
  simp only [Act.put, List.setIfInBounds_toArray]
  refine wpAnyH_take (i := 1) (v := .int .i64 x) rfl (by kernel_rfl) (by kernel_rfl) (by kernel_rfl) (fun _ _ _ h => h) (Or.inl ⟨by rfl, ?_⟩) SW ?_
  · rintro u ⟨q1, q2⟩
    go_simp
  simp only [Act.put]
  refine wpAnyH_take (i := 2) (v := .pointer (some ⟨w.heap.size, 1, none⟩)) rfl (by kernel_rfl) (by kernel_rfl) (by kernel_rfl) (fun _ _ _ h => h) (Or.inl ⟨by rfl, ?_⟩) SW ?_
  · rintro u ⟨q1, q2⟩
    go_simp
  simp only [Act.put]
  refine wpAnyH_take (i := 3) (v := .slice a l.length c) rfl (by kernel_rfl) (by kernel_rfl) (by kernel_rfl) (fun _ _ _ h => h) (Or.inl ⟨by rfl, ?_⟩) SW ?_
  · rintro u ⟨q1, q2⟩
    go_simp
  simp only [Act.put]
  refine wpAnyH_ready (rs := [4]) (by kernel_rfl) (by simp) ?_
  refine AllReadyH.cons rfl (fun K hK => ?_) AllReadyH.nil
  rw [if_pos (by rfl)]
  go_simp
  have hbd : Below w.heap.size w WA.drew := hb0.drew
  refine (freshMarks_any a c l _ (hr.below hbd) hl hs).mono ?_
  rintro e w2 ⟨⟨g, cap, rfl, hg, hcap, ho⟩, b2⟩
  have b2' : Below WA.heap.size WA w2 := ((Below.refl _ _).drew).trans b2
  have hgl : w.heap.size + 2 ≤ g := by have : WA.drew.heap.size = WA.heap.size := rfl; omega
  have S2 : w2.cell? ⟨w.heap.size, 0, none⟩ = some (.int .i64 x) ∧ w2.cell? ⟨w.heap.size, 1, none⟩ = some (.slice a l.length c) := ⟨cell_on b2' (by omega) c0, cell_on b2' (by omega) c1⟩
  have B2 : Below w.heap.size w w2 := hb0.trans (b2'.mono (by omega))
  have x0 := cell_on b2' (by omega) d0
  have x1 := cell_on b2' (by omega) d1
  have y0 : w2.frozen? ⟨w.heap.size + 1, 0, none⟩ = false := (b2'.frozen (p := ⟨w.heap.size + 1, 0, none⟩) (by simp only; omega)).trans f0
  have y1 : w2.frozen? ⟨w.heap.size + 1, 1, none⟩ = false := (b2'.frozen (p := ⟨w.heap.size + 1, 1, none⟩) (by simp only; omega)).trans f1
  refine hK.out _ _ S2 (fun _ => ?_)
  clear hK K b2 SW hbd c0 c1 d0 d1 f0 f1 hb0 b2'
  refine wpAnyH_take (i := 5) (v := .agg #[.int .i64 x, .slice (some ⟨g, 0, none⟩) l.length cap]) rfl (by kernel_rfl) (by kernel_rfl) (by kernel_rfl) (fun _ _ _ h => h) (Or.inl ⟨by rfl, ?_⟩) S2 ?_
  · rintro u ⟨q1, q2⟩
    go_simp
  simp only [Act.put, List.setIfInBounds_toArray]
  refine wpAnyH_ready (rs := [6]) (by kernel_rfl) (by simp) ?_
  refine AllReadyH.cons rfl (fun K hK => ?_) AllReadyH.nil
  rw [if_pos (by rfl)]
  go_simp
  have S3 : ((w2.setCell ⟨w.heap.size + 1, 0, none⟩ (.int .i64 x)).setCell ⟨w.heap.size + 1, 1, none⟩ (.slice (some ⟨g, 0, none⟩) l.length cap)).cell? ⟨w.heap.size, 0, none⟩ = some (.int .i64 x) ∧ ((w2.setCell ⟨w.heap.size + 1, 0, none⟩ (.int .i64 x)).setCell ⟨w.heap.size + 1, 1, none⟩ (.slice (some ⟨g, 0, none⟩) l.length cap)).cell? ⟨w.heap.size, 1, none⟩ = some (.slice a l.length c) := by
    simp only [set_far _ _ _ _ (show w.heap.size ≠ w.heap.size + 1 by omega)]
    exact S2
  refine hK.out _ _ S3 (fun _ => ?_)
  clear hK K
  refine wpAnyH_done (by kernel_rfl) ?_ _
  go_wp2_with fail
  have z0 : ((w2.setCell ⟨w.heap.size + 1, 0, none⟩ (.int .i64 x)).setCell ⟨w.heap.size + 1, 1, none⟩ (.slice (some ⟨g, 0, none⟩) l.length cap)).cell? ⟨w.heap.size + 1, 0, none⟩ = some (.int .i64 x) := by simp [go_sem, x0]
  have z1 : ((w2.setCell ⟨w.heap.size + 1, 0, none⟩ (.int .i64 x)).setCell ⟨w.heap.size + 1, 1, none⟩ (.slice (some ⟨g, 0, none⟩) l.length cap)).cell? ⟨w.heap.size + 1, 1, none⟩ = some (.slice (some ⟨g, 0, none⟩) l.length cap) := by simp [go_sem, x1]
  exact bodyPost_ret (v := .agg #[.int .i64 x, .slice (some ⟨g, 0, none⟩) l.length cap]) (by simp [results, Tryz.results170, go_sem, z0, z1]) rfl
    ⟨⟨g, cap, rfl, by omega, hcap, (ho.setOther (by omega) _ _).setOther (by omega) _ _⟩, (B2.setCell (by simp only; omega) _).setCell (by simp only; omega) _⟩

set_option maxHeartbeats 1600000 in
theorem items_any (W0 w : World) (b s : Nat) (l : List ItemL) (h : WinB W0 w b s l) (hW : Below W0.heap.size W0 w) (hl : ∀ k, (h : k < l.length) → StampP l[k].2) :
    Calls Tryz.prog 130 #[.pointer (some ⟨b, 0, none⟩)] w fun e w' => (∃ v, e = .returned v ∧ GathI w' w.heap.size v l) ∧ Below w.heap.size w w' := by
  obtain ⟨i0, hi, hz0, hz1, hz2⟩ := info_parts Tryz.infoI
  have h4 := h.2.2.1
  have hmk : ∀ u : World, (Instr.makeSlice 78 (.int .i64 0) (.int .i64 (l.length : Int))).run Tryz.prog u =
      .ok (.slice (some ⟨u.heap.size, 0, none⟩) 0 l.length) (u.alloc (.cells (madeCells #[.int .i64 0, .slice none 0 0] (l.length * 2)) 44)) := fun u => by
    have h := run_make (P := Tryz.prog) u 78 44 i0 (.agg #[.int .i64 0, .slice none 0 0]) Tryz.underlying78 hi hz0 .i64 .i64 0 (l.length : Int) (by omega) (by omega) (by rw [hz2]; omega) (by omega)
    simpa [hz1, Value.cells] using h
  go_enter Tryz.func130, Tryz.ntmps130
  go_wp2_with fail
  refine (size_any W0 w b s l h).mono ?_
  rintro e w1 ⟨rfl, rfl⟩
  go_wp2_with fail
  have hb0 : Below w1.heap.size w1 (w1.alloc (.cells (madeCells #[.int .i64 0, .slice none 0 0] (l.length * 2)) 44)) := (Below.refl _ _).alloc (Nat.le_refl _) _
  have hsz : (w1.alloc (.cells (madeCells #[.int .i64 0, .slice none 0 0] (l.length * 2)) 44)).heap.size = w1.heap.size + 1 := by simp
  have hg0 : GathI (w1.alloc (.cells (madeCells #[.int .i64 0, .slice none 0 0] (l.length * 2)) 44)) w1.heap.size (.slice (some ⟨w1.heap.size, 0, none⟩) 0 l.length) [] :=
    ⟨[], rfl, ⟨rfl, .inr ⟨w1.heap.size, l.length, madeCells #[.int .i64 0, .slice none 0 0] (l.length * 2), rfl, Nat.le_refl _, heap_alloc_new w1 _, Nat.zero_le _, by unfold maxLen; omega, size_madeCells _ _, rfl⟩⟩, by simp, List.Pairwise.nil⟩
  have hW1 := h.below hb0
  have hWl := h.lt
  generalize (w1.alloc (.cells (madeCells #[.int .i64 0, .slice none 0 0] (l.length * 2)) 44)) = W1 at *
  refine (size_any W0 W1 b s l hW1).mono ?_
  rintro e w2 ⟨rfl, rfl⟩
  clear hmk
  go_wp2_with fail
  have hzW := hW.size
  go_loopw [3, 14] (fun out i wr => ∃ k : Nat, k ≤ l.length ∧ i = .int .i64 k ∧ GathI wr w1.heap.size out (l.take k) ∧ Below w1.heap.size w1 wr) (fun _ i _ => l.length - (intOf i).toNat)
  case atStart => exact ⟨0, Nat.zero_le _, rfl, hg0, hb0⟩
  case round =>
    obtain ⟨k, hk, rfl, hg, hb⟩ := hrel
    clear hg0 hb0 hW1
    by_cases hlt : k < l.length
    · have k0 : (0 : Int) ≤ (k : Int) := by omega
      have k1 : (k : Int) < (l.length : Int) := by omega
      have HT : Hid (l.take (k + 1) = l.take k ++ [(l[k].1, l[k].2)]) := List.take_succ_eq_append_getElem hlt
      have htl : (l.take k).length ≤ 1048576 := by rw [List.length_take]; omega
      have hzr := hb.size
      have hst := hl k hlt
      have hfk := stamp_fit hst
      have hlk : l[k].2.length ≤ 1048576 := by have := hst.1; omega
      have hsk : ∀ j, (h : j < l[k].2.length) → l[k].2[j].1.size ≤ 281474976710656 := fun j hj => by have := (hst.2.1 j hj).1.2.1; omega
      have HL : Hid (∀ j, (h : j < l[k].2.length) → l[k].2[j].1.size ≤ 281474976710656) := hsk
      clear hsk hst hfk
      go_wp2_with fail
      refine (at_any W0 wr b s l k (h.below hb) hlt).mono ?_
      rintro e w3 ⟨⟨v, rfl, sa, sc, rfl, hcap, hrow⟩, b3⟩
      have B3 : Below w1.heap.size w1 w3 := hb.trans (b3.mono hzr)
      have hrow3 := hrow.below (hW.trans (B3.mono hzW))
      go_wp2_with fail
      refine (freshItem_any l[k].1 sa sc l[k].2 _ hrow3 hlk HL.out).mono ?_
      rintro e w4 ⟨⟨gm, cm, rfl, hgm, hcm, ho⟩, b4⟩
      have b4' : Below wr.heap.size wr w4 := b3.trans (b4.mono b3.size)
      have z3 := b3.size
      have z4 := b4'.size
      have b5 : Below wr.heap.size wr (w4.alloc (.cells #[.int .i64 l[k].1, .slice (some ⟨gm, 0, none⟩) l[k].2.length cm] 44)) := b4'.alloc b4'.size _
      have hbx : Below w4.heap.size w4 (w4.alloc (.cells #[.int .i64 l[k].1, .slice (some ⟨gm, 0, none⟩) l[k].2.length cm] 44)) := (Below.refl _ _).alloc (Nat.le_refl _) _
      have ho5 := ho.below hbx
      have B5 : Below w1.heap.size w1 (w4.alloc (.cells #[.int .i64 l[k].1, .slice (some ⟨gm, 0, none⟩) l[k].2.length cm] 44)) := hb.trans (b5.mono hzr)
      clear b3 b4 b4' B3 hrow3 hrow hbx ho
      go_wp2_with (at_builtin; refine wpList_append_item rfl _ _ rfl wr w1.heap.size _ (l.take k) rfl hg b5 hzr w4.heap.size l[k].1 l[k].2 gm cm rfl (box0 _ _ _ _) (box1 _ _ _ _) ho5 (by omega) hcm htl ?_; intro v' w6 hg6 b6)
      exact ⟨⟨k + 1, by omega, by go_num, by rw [HT.out]; exact hg6, B5.trans b6⟩, by simp [intOf]; omega⟩
    · rw [List.take_of_length_le (by omega)] at hg
      go_wp2_with fail
      go_ret
      exact ⟨⟨_, rfl, hg⟩, hb⟩

end Go.Proofs.YtpfhegengmlkmacGreatDoor
/- Walks: WindowLast of both. -/
namespace Go.Proofs.YtpfhegengmlkmacGreatDoor
open Go.RowKit Go.BigFrame
set_option maxRecDepth 100000

/-- What WindowLast answers. -/
def IsL (l : List ItemL) (x : Int) (m : List (ByteArray × Int)) (ok : Bool) : Prop :=
  (∀ h : WinP l ∧ 0 < l.length, ok = true ∧ (x, m) = l[l.length - 1]'(by omega)) ∧ (¬ (WinP l ∧ 0 < l.length) → ok = false ∧ x = 0 ∧ m = [])
theorem IsL.one {l : List ItemL} {x x' : Int} {m m' : List (ByteArray × Int)} {ok ok' : Bool} (h : IsL l x m ok) (h' : IsL l x' m' ok') : x = x' ∧ m = m' ∧ ok = ok' := by
  by_cases hp : WinP l ∧ 0 < l.length
  · have e := (h.1 hp).2.trans (h'.1 hp).2.symm
    exact ⟨(Prod.mk.inj e).1, (Prod.mk.inj e).2, (h.1 hp).1.trans (h'.1 hp).1.symm⟩
  · obtain ⟨h1, h2, h3⟩ := h.2 hp
    obtain ⟨h1', h2', h3'⟩ := h'.2 hp
    exact ⟨h2.trans h2'.symm, h3.trans h3'.symm, h1.trans h1'.symm⟩
/-- How WindowLast ends: an item whose marks lie in new memory, and whether there is one. -/
def LastE (w' : World) (B : Nat) (l : List ItemL) (e : Ending) : Prop := ∃ x a c m ok, e = .returned (.tuple #[.agg #[.int .i64 x, .slice a m.length c], .bool ok]) ∧ IsL l x m ok ∧ m.length ≤ c ∧ Safe w' B w'.heap.size a m

theorem win_small {l : List ItemL} (h : WinP l) : Small1 l := ⟨by have := h.1; omega, fun j hj => by have := (h.2.1 j hj).1.1; omega⟩
theorem Own.safe {w : World} {B g : Nat} {m : List (ByteArray × Int)} (h : Own w g m) (hB : B ≤ g) : Safe w B w.heap.size (some ⟨g, 0, none⟩) m := .inr ⟨g, rfl, hB, h.lt, h⟩

theorem gathI_one {w : World} {B : Nat} {v : Value} {x : Int} {m : List (ByteArray × Int)} (h : GathI w B v [(x, m)]) : ∃ g gm cm cap, v = .slice (some ⟨g, 0, none⟩) 1 cap ∧ w.cell? ⟨g, 0, none⟩ = some (.int .i64 x) ∧ w.cell? ⟨g, 1, none⟩ = some (.slice (some ⟨gm, 0, none⟩) m.length cm) ∧ m.length ≤ cm ∧ Own w gm m ∧ B ≤ gm ∧ g < w.heap.size := by
  obtain ⟨a, cap, rfl, _, hs⟩ := h.safe
  rcases hs with hs | ⟨g, rfl, _, hg, G, C, n, f, hr, hn, hf, _⟩
  · cases hs
  · obtain ⟨e0, e1, e2, e3, e4, _⟩ := hf 0 (by simp) (by simp)
    simp only [List.length_cons, List.length_nil] at hn
    refine ⟨g, G 0, C 0, cap, rfl, ?_, ?_, e2, e3, e4, hg⟩
    · rw [hr.cell (by omega)]; exact congrArg some e0
    · rw [hr.cell (by omega)]; exact congrArg some e1
theorem rowI_last {w : World} {b o : Nat} {l : List ItemL} (h : RowI w (some ⟨b, o, none⟩) l) (h0 : 0 < l.length) : RowI w (some ⟨b, o + (l.length - 1) * 2, none⟩) [((l[l.length - 1]'(by omega)).1, (l[l.length - 1]'(by omega)).2)] := fun k hk => by
  obtain rfl : k = 0 := by simpa using hk
  obtain ⟨b', o', ha, hlt, c0, v, c1, hv⟩ := h (l.length - 1) (by omega)
  obtain ⟨rfl, rfl⟩ : b = b' ∧ o = o' := by simpa using ha
  exact ⟨b, _, rfl, hlt, by simpa using c0, v, by simpa using c1, hv⟩
theorem isL_no {l : List ItemL} (h : ¬ (WinP l ∧ 0 < l.length)) : IsL l 0 [] false := ⟨fun q => absurd q h, fun _ => ⟨rfl, rfl, rfl⟩⟩
theorem isL_yes {l : List ItemL} (h : WinP l) (h0 : 0 < l.length) : IsL l (l[l.length - 1]'(by omega)).1 (l[l.length - 1]'(by omega)).2 true := ⟨fun _ => ⟨rfl, rfl⟩, fun q => absurd ⟨h, h0⟩ q⟩

set_option maxHeartbeats 1600000 in
theorem specLast_any (a : Option Addr) (cap : Nat) (l : List ItemL) (w : World) (hf : FitI l) (hc : l.length ≤ cap) (hr : RowI w a l) :
    Calls Tryz.prog 154 #[.slice a l.length cap] w fun e w' => LastE w' w.heap.size l e ∧ Below w.heap.size w w' := by
  have hl := hf.1
  unfold maxLen at hl
  have hb0 : Below w.heap.size w (w.alloc (.cells #[.int .i64 0, .slice none 0 0] 44)) := (Below.refl _ _).alloc (Nat.le_refl _) _
  have d0 := box0 w (.int .i64 0) (.slice none 0 0) 44
  have d1 := box1 w (.int .i64 0) (.slice none 0 0) 44
  have f0 : (w.alloc (.cells #[.int .i64 0, .slice none 0 0] 44)).frozen? ⟨w.heap.size, 0, none⟩ = false := by simp [go_sem]
  have f1 : (w.alloc (.cells #[.int .i64 0, .slice none 0 0] 44)).frozen? ⟨w.heap.size, 1, none⟩ = false := by simp [go_sem]
  have hlt := box_lt w (.cells #[.int .i64 0, .slice none 0 0] 44)
  go_enter Tryz.func154, Tryz.ntmps154
  go_wp2_with fail
  generalize w.alloc (.cells #[.int .i64 0, .slice none 0 0] 44) = W1 at *
  refine (specWinOk_any a cap l _ hf (hr.below hb0)).mono ?_
  rintro e w2 ⟨⟨r, rfl, hr2⟩, b2⟩
  have HR : Hid (r = true ↔ WinP l) := hr2
  replace d0 := cell_on b2 hlt d0
  replace d1 := cell_on b2 hlt d1
  replace f0 := (b2.frozen (p := ⟨w.heap.size, 0, none⟩) hlt).trans f0
  replace f1 := (b2.frozen (p := ⟨w.heap.size, 1, none⟩) hlt).trans f1
  have B2 : Below w.heap.size w w2 := hb0.trans (b2.mono hb0.size)
  have hlt2 : w.heap.size < w2.heap.size := Nat.lt_of_lt_of_le hlt b2.size
  clear hr2 b2 hb0 hlt
  have HZ : Hid (¬ (WinP l ∧ 0 < l.length) → LastE ((w2.setCell ⟨w.heap.size, 0, none⟩ (.int .i64 0)).setCell ⟨w.heap.size, 1, none⟩ (.slice none 0 0)) w.heap.size l (.returned (.tuple #[.agg #[.int .i64 0, .slice none 0 0], .bool false])) ∧ Below w.heap.size w ((w2.setCell ⟨w.heap.size, 0, none⟩ (.int .i64 0)).setCell ⟨w.heap.size, 1, none⟩ (.slice none 0 0))) :=
    fun hn => ⟨⟨0, none, 0, [], false, rfl, isL_no hn, Nat.le_refl _, .inl rfl⟩, (B2.setCell (Nat.le_refl _) _).setCell (Nat.le_refl _) _⟩
  have z0 : ((w2.setCell ⟨w.heap.size, 0, none⟩ (.int .i64 0)).setCell ⟨w.heap.size, 1, none⟩ (.slice none 0 0)).cell? ⟨w.heap.size, 0, none⟩ = some (.int .i64 0) := by simp [go_sem, d0]
  have z1 : ((w2.setCell ⟨w.heap.size, 0, none⟩ (.int .i64 0)).setCell ⟨w.heap.size, 1, none⟩ (.slice none 0 0)).cell? ⟨w.heap.size, 1, none⟩ = some (.slice none 0 0) := by simp [go_sem, d1]
  have HZ0 : Hid _ := z0
  have HZ1 : Hid _ := z1
  clear z0 z1
  cases r
  · have HN : Hid (¬ (WinP l ∧ 0 < l.length)) := fun h => by simpa using HR.out.2 h.1
    clear HR
    go_wp2_with fail
    exact bodyPost_ret (v := .tuple #[.agg #[.int .i64 0, .slice none 0 0], .bool false]) (by simp [results, Tryz.results154, go_sem, HZ0.out, HZ1.out]) rfl (HZ.out HN.out)
  · by_cases h0 : 0 < l.length
    · have HP : Hid (WinP l) := HR.out.1 rfl
      have h0' : ((l.length : Int) == 0) = false := by rw [beq_eq_false_iff_ne]; omega
      obtain ⟨b, o, rfl, hblt, _⟩ := hr 0 h0
      have hrl := rowI_last (hr.below B2) h0
      have hsm : Small1 [((l[l.length - 1]'(by omega)).1, (l[l.length - 1]'(by omega)).2)] := ⟨by simp, fun j hj => by
        obtain rfl : j = 0 := by simpa using hj
        exact (win_small HP.out).2 _ (by omega)⟩
      have HL : Hid (IsL l (l[l.length - 1]'(by omega)).1 (l[l.length - 1]'(by omega)).2 true) := isL_yes HP.out h0
      generalize hq : l[l.length - 1] = q at *
      obtain ⟨q1, q2⟩ := q
      simp only at hrl hsm HL
      clear hq HR HZ HZ0 HZ1
      go_wp2_with fail
      have e1 : l.length - (l.length - 1) = 1 := by omega
      rw [e1]
      refine (l2Items_any (some ⟨b, o + (l.length - 1) * 2, none⟩) (cap - (l.length - 1)) [(q1, q2)] _ hsm hrl).mono ?_
      rintro e w3 ⟨⟨v, rfl, hg⟩, b3⟩
      obtain ⟨g, gm, cm, cg, rfl, y0, y1, hcm, ho, hB, hgl⟩ := gathI_one hg
      replace d0 := cell_on b3 hlt2 d0
      replace d1 := cell_on b3 hlt2 d1
      replace f0 := (b3.frozen (p := ⟨w.heap.size, 0, none⟩) hlt2).trans f0
      replace f1 := (b3.frozen (p := ⟨w.heap.size, 1, none⟩) hlt2).trans f1
      have B3 : Below w.heap.size w w3 := B2.trans (b3.mono B2.size)
      clear b3 B2 hg hrl hsm e1
      go_wp2_with fail
      have z0 : ((w3.setCell ⟨w.heap.size, 0, none⟩ (.int .i64 q1)).setCell ⟨w.heap.size, 1, none⟩ (.slice (some ⟨gm, 0, none⟩) q2.length cm)).cell? ⟨w.heap.size, 0, none⟩ = some (.int .i64 q1) := by simp [go_sem, d0]
      have z1 : ((w3.setCell ⟨w.heap.size, 0, none⟩ (.int .i64 q1)).setCell ⟨w.heap.size, 1, none⟩ (.slice (some ⟨gm, 0, none⟩) q2.length cm)).cell? ⟨w.heap.size, 1, none⟩ = some (.slice (some ⟨gm, 0, none⟩) q2.length cm) := by simp [go_sem, d1]
      exact bodyPost_ret (v := .tuple #[.agg #[.int .i64 q1, .slice (some ⟨gm, 0, none⟩) q2.length cm], .bool true]) (by simp [results, Tryz.results154, go_sem, z0, z1]) rfl
        ⟨⟨q1, _, cm, q2, true, rfl, HL.out, hcm, ((ho.setOther (by omega) _ _).setOther (by omega) _ _).safe (by omega)⟩, (B3.setCell (Nat.le_refl _) _).setCell (Nat.le_refl _) _⟩
    · have h0' : ((l.length : Int) == 0) = true := by rw [beq_iff_eq]; omega
      have HN : Hid (¬ (WinP l ∧ 0 < l.length)) := fun h => h0 h.2
      clear HR
      go_wp2_with fail
      exact bodyPost_ret (v := .tuple #[.agg #[.int .i64 0, .slice none 0 0], .bool false]) (by simp [results, Tryz.results154, go_sem, HZ0.out, HZ1.out]) rfl (HZ.out HN.out)

set_option maxHeartbeats 1600000 in
theorem implLast_any (a : Option Addr) (cap : Nat) (l : List ItemL) (w : World) (hf : FitI l) (hr : RowI w a l) :
    Calls Tryz.prog 194 #[.slice a l.length cap] w fun e w' => LastE w' w.heap.size l e ∧ Below w.heap.size w w' := by
  have hl := hf.1
  unfold maxLen at hl
  have hb0 : Below w.heap.size w (w.alloc (.cells #[.int .i64 0, .slice none 0 0] 44)) := (Below.refl _ _).alloc (Nat.le_refl _) _
  have d0 := box0 w (.int .i64 0) (.slice none 0 0) 44
  have d1 := box1 w (.int .i64 0) (.slice none 0 0) 44
  have f0 : (w.alloc (.cells #[.int .i64 0, .slice none 0 0] 44)).frozen? ⟨w.heap.size, 0, none⟩ = false := by simp [go_sem]
  have f1 : (w.alloc (.cells #[.int .i64 0, .slice none 0 0] 44)).frozen? ⟨w.heap.size, 1, none⟩ = false := by simp [go_sem]
  have hlt := box_lt w (.cells #[.int .i64 0, .slice none 0 0] 44)
  go_enter Tryz.func194, Tryz.ntmps194
  go_wp2_with fail
  generalize w.alloc (.cells #[.int .i64 0, .slice none 0 0] 44) = W1 at *
  refine (readWindow_any a cap l _ hf (hr.below hb0)).mono ?_
  rintro e w2 ⟨hE, b2⟩
  have B2 : Below w.heap.size w w2 := hb0.trans (b2.mono hb0.size)
  have BW : Below W1.heap.size W1 w2 := b2
  replace d0 := cell_on b2 hlt d0
  replace d1 := cell_on b2 hlt d1
  replace f0 := (b2.frozen (p := ⟨w.heap.size, 0, none⟩) hlt).trans f0
  replace f1 := (b2.frozen (p := ⟨w.heap.size, 1, none⟩) hlt).trans f1
  have hlt2 : w.heap.size < w2.heap.size := Nat.lt_of_lt_of_le hlt b2.size
  clear hb0 b2
  rcases hE with ⟨v, rfl, hp, hv⟩ | ⟨v, rfl, hp, hv⟩
  · have HP : Hid (WinP l) := hp
    clear hp
    obtain ⟨x0, x1, x2, x3, a0, a1, a2, a3, n0, n1, n2, n3, c0, c1, c2, c3, rfl, hw⟩ := hv.laid
    have hW := hw w2 BW.size
    have hbx : Below w2.heap.size w2 (w2.alloc (.cells #[.int .i64 x0, .slice a0 n0 c0, .int .i64 x1, .slice a1 n1 c1, .int .i64 x2, .slice a2 n2 c2, .int .i64 x3, .slice a3 n3 c3, .int .i64 0, .int .i64 l.length] 190)) := (Below.refl _ _).alloc (Nat.le_refl _) _
    have B3 := B2.trans (hbx.mono B2.size)
    have BW3 := BW.trans (hbx.mono BW.size)
    replace d0 := cell_on hbx hlt2 d0
    replace d1 := cell_on hbx hlt2 d1
    replace f0 := (hbx.frozen (p := ⟨w.heap.size, 0, none⟩) hlt2).trans f0
    replace f1 := (hbx.frozen (p := ⟨w.heap.size, 1, none⟩) hlt2).trans f1
    have hlt3 : w.heap.size < (w2.alloc (.cells #[.int .i64 x0, .slice a0 n0 c0, .int .i64 x1, .slice a1 n1 c1, .int .i64 x2, .slice a2 n2 c2, .int .i64 x3, .slice a3 n3 c3, .int .i64 0, .int .i64 l.length] 190)).heap.size := Nat.lt_of_lt_of_le hlt2 hbx.size
    clear hw hv hbx
    go_wp2_with fail
    generalize w2.alloc (.cells #[.int .i64 x0, .slice a0 n0 c0, .int .i64 x1, .slice a1 n1 c1, .int .i64 x2, .slice a2 n2 c2, .int .i64 x3, .slice a3 n3 c3, .int .i64 0, .int .i64 l.length] 190) = W3 at *
    clear B2 BW
    refine (size_any W1 W3 _ 0 l hW).mono ?_
    rintro e w4 ⟨rfl, rfl⟩
    by_cases h0 : 0 < l.length
    · have h0' : ((l.length : Int) == 0) = false := by rw [beq_eq_false_iff_ne]; omega
      have HL : Hid (IsL l (l[l.length - 1]'(by omega)).1 (l[l.length - 1]'(by omega)).2 true) := isL_yes HP.out h0
      have hst := (HP.out.2.1 (l.length - 1) (by omega)).1
      go_wp2_with fail
      refine (last_any W1 w4 _ 0 l hW h0).mono ?_
      rintro e w5 ⟨⟨v, rfl, sa, sc, rfl, hcap, hrow⟩, b5⟩
      generalize hq : l[l.length - 1] = q at *
      obtain ⟨q1, q2⟩ := q
      simp only at hst HL hcap hrow
      replace d0 := cell_on b5 hlt3 d0
      replace d1 := cell_on b5 hlt3 d1
      replace f0 := (b5.frozen (p := ⟨w.heap.size, 0, none⟩) hlt3).trans f0
      replace f1 := (b5.frozen (p := ⟨w.heap.size, 1, none⟩) hlt3).trans f1
      have hlt5 : w.heap.size < w5.heap.size := Nat.lt_of_lt_of_le hlt3 b5.size
      have B5 : Below w.heap.size w w5 := B3.trans (b5.mono B3.size)
      have BW5 : Below W1.heap.size W1 w5 := BW3.trans (b5.mono BW3.size)
      have hrow5 := hrow.below BW5
      have hlk : q2.length ≤ 1048576 := by have := hst.1; omega
      have HS : Hid (∀ j, (h : j < q2.length) → q2[j].1.size ≤ 281474976710656) := fun j hj => by have := (hst.2.1 j hj).1.2.1; omega
      clear b5 B3 BW3 BW5 hrow hst hq hW hlt3
      go_wp2_with fail
      refine (freshItem_any q1 sa sc q2 _ hrow5 hlk HS.out).mono ?_
      rintro e w6 ⟨⟨gm, cm, rfl, hgm, hcm, ho⟩, b6⟩
      replace d0 := cell_on b6 hlt5 d0
      replace d1 := cell_on b6 hlt5 d1
      replace f0 := (b6.frozen (p := ⟨w.heap.size, 0, none⟩) hlt5).trans f0
      replace f1 := (b6.frozen (p := ⟨w.heap.size, 1, none⟩) hlt5).trans f1
      have B6 : Below w.heap.size w w6 := B5.trans (b6.mono B5.size)
      clear b6 B5 hrow5
      go_wp2_with fail
      have z0 : ((w6.setCell ⟨w.heap.size, 0, none⟩ (.int .i64 q1)).setCell ⟨w.heap.size, 1, none⟩ (.slice (some ⟨gm, 0, none⟩) q2.length cm)).cell? ⟨w.heap.size, 0, none⟩ = some (.int .i64 q1) := by simp [go_sem, d0]
      have z1 : ((w6.setCell ⟨w.heap.size, 0, none⟩ (.int .i64 q1)).setCell ⟨w.heap.size, 1, none⟩ (.slice (some ⟨gm, 0, none⟩) q2.length cm)).cell? ⟨w.heap.size, 1, none⟩ = some (.slice (some ⟨gm, 0, none⟩) q2.length cm) := by simp [go_sem, d1]
      exact bodyPost_ret (v := .tuple #[.agg #[.int .i64 q1, .slice (some ⟨gm, 0, none⟩) q2.length cm], .bool true]) (by simp [results, Tryz.results194, go_sem, z0, z1]) rfl
        ⟨⟨q1, _, cm, q2, true, rfl, HL.out, hcm, ((ho.setOther (by omega) _ _).setOther (by omega) _ _).safe (by omega)⟩, (B6.setCell (Nat.le_refl _) _).setCell (Nat.le_refl _) _⟩
    · have h0' : ((l.length : Int) == 0) = true := by rw [beq_iff_eq]; omega
      have HN : Hid (¬ (WinP l ∧ 0 < l.length)) := fun h => h0 h.2
      go_wp2_with fail
      have z0 : ((w4.setCell ⟨w.heap.size, 0, none⟩ (.int .i64 0)).setCell ⟨w.heap.size, 1, none⟩ (.slice none 0 0)).cell? ⟨w.heap.size, 0, none⟩ = some (.int .i64 0) := by simp [go_sem, d0]
      have z1 : ((w4.setCell ⟨w.heap.size, 0, none⟩ (.int .i64 0)).setCell ⟨w.heap.size, 1, none⟩ (.slice none 0 0)).cell? ⟨w.heap.size, 1, none⟩ = some (.slice none 0 0) := by simp [go_sem, d1]
      exact bodyPost_ret (v := .tuple #[.agg #[.int .i64 0, .slice none 0 0], .bool false]) (by simp [results, Tryz.results194, go_sem, z0, z1]) rfl ⟨⟨0, none, 0, [], false, rfl, isL_no HN.out, Nat.le_refl _, .inl rfl⟩, (B3.setCell (Nat.le_refl _) _).setCell (Nat.le_refl _) _⟩
  · have HN : Hid (¬ (WinP l ∧ 0 < l.length)) := fun h => hp h.1
    obtain ⟨x0, x1, x2, x3, a0, a1, a2, a3, n0, n1, n2, n3, c0, c1, c2, c3, rfl, hw⟩ := hv.laid
    have z0 : ((w2.setCell ⟨w.heap.size, 0, none⟩ (.int .i64 0)).setCell ⟨w.heap.size, 1, none⟩ (.slice none 0 0)).cell? ⟨w.heap.size, 0, none⟩ = some (.int .i64 0) := by simp [go_sem, d0]
    have z1 : ((w2.setCell ⟨w.heap.size, 0, none⟩ (.int .i64 0)).setCell ⟨w.heap.size, 1, none⟩ (.slice none 0 0)).cell? ⟨w.heap.size, 1, none⟩ = some (.slice none 0 0) := by simp [go_sem, d1]
    have HZ : Hid (((w2.setCell ⟨w.heap.size, 0, none⟩ (.int .i64 0)).setCell ⟨w.heap.size, 1, none⟩ (.slice none 0 0)).cell? ⟨w.heap.size, 0, none⟩ = some (.int .i64 0) ∧ ((w2.setCell ⟨w.heap.size, 0, none⟩ (.int .i64 0)).setCell ⟨w.heap.size, 1, none⟩ (.slice none 0 0)).cell? ⟨w.heap.size, 1, none⟩ = some (.slice none 0 0)) := ⟨z0, z1⟩
    clear hp hv hw z0 z1
    go_wp2_with fail
    obtain ⟨z0, z1⟩ := HZ.out
    have B4 : Below w.heap.size w ((w2.setCell ⟨w.heap.size, 0, none⟩ (.int .i64 0)).setCell ⟨w.heap.size, 1, none⟩ (.slice none 0 0)) := (B2.setCell (Nat.le_refl _) _).setCell (Nat.le_refl _) _
    generalize (w2.setCell ⟨w.heap.size, 0, none⟩ (.int .i64 0)).setCell ⟨w.heap.size, 1, none⟩ (.slice none 0 0) = W4 at *
    have y0 := cell_on ((Below.refl W4.heap.size W4).alloc (Nat.le_refl _) (.cells #[.int .i64 x0, .slice a0 n0 c0, .int .i64 x1, .slice a1 n1 c1, .int .i64 x2, .slice a2 n2 c2, .int .i64 x3, .slice a3 n3 c3, .int .i64 0, .int .i64 0] 190)) (block_lt_of_cell z0) z0
    have y1 := cell_on ((Below.refl W4.heap.size W4).alloc (Nat.le_refl _) (.cells #[.int .i64 x0, .slice a0 n0 c0, .int .i64 x1, .slice a1 n1 c1, .int .i64 x2, .slice a2 n2 c2, .int .i64 x3, .slice a3 n3 c3, .int .i64 0, .int .i64 0] 190)) (block_lt_of_cell z0) z1
    exact bodyPost_ret (v := .tuple #[.agg #[.int .i64 0, .slice none 0 0], .bool false]) (by simp [results, Tryz.results194, go_sem, y0, y1]) rfl ⟨⟨0, none, 0, [], false, rfl, isL_no HN.out, Nat.le_refl _, .inl rfl⟩, B4.alloc B4.size _⟩

end Go.Proofs.YtpfhegengmlkmacGreatDoor
/- Walks: WindowPut of both. -/
namespace Go.Proofs.YtpfhegengmlkmacGreatDoor
open Go.RowKit Go.BigFrame
set_option maxRecDepth 100000

/-- A window with an item behind the others. -/
def putL (l : List ItemL) (it : ItemL) : List ItemL := if l.length < 4 then l ++ [it] else l.tail ++ [it]
/-- May the item come behind the last one? -/
def TakeP (l : List ItemL) (m : List (ByteArray × Int)) : Prop := ∀ h : 0 < l.length, AboveP (l[l.length - 1]'(by omega)).2 m
/-- What WindowPut answers. -/
def IsP (l : List ItemL) (x : Int) (m : List (ByteArray × Int)) (r : List ItemL) (c : Int) : Prop :=
  (¬ (WinP l ∧ StampP m ∧ m ≠ []) → r = [] ∧ c = 1) ∧ (WinP l ∧ StampP m ∧ m ≠ [] → ¬ TakeP l m → r = l ∧ c = 2) ∧ (WinP l ∧ StampP m ∧ m ≠ [] → TakeP l m → r = putL l (x, m) ∧ c = 0)
theorem IsP.one {l : List ItemL} {x : Int} {m : List (ByteArray × Int)} {r r' : List ItemL} {c c' : Int} (h : IsP l x m r c) (h' : IsP l x m r' c') : r = r' ∧ c = c' := by
  by_cases hp : WinP l ∧ StampP m ∧ m ≠ []
  · by_cases ht : TakeP l m
    · exact ⟨(h.2.2 hp ht).1.trans (h'.2.2 hp ht).1.symm, (h.2.2 hp ht).2.trans (h'.2.2 hp ht).2.symm⟩
    · exact ⟨(h.2.1 hp ht).1.trans (h'.2.1 hp ht).1.symm, (h.2.1 hp ht).2.trans (h'.2.1 hp ht).2.symm⟩
  · exact ⟨(h.1 hp).1.trans (h'.1 hp).1.symm, (h.1 hp).2.trans (h'.1 hp).2.symm⟩
theorem isP_bad {l : List ItemL} {x : Int} {m : List (ByteArray × Int)} (h : ¬ (WinP l ∧ StampP m ∧ m ≠ [])) : IsP l x m [] 1 := ⟨fun _ => ⟨rfl, rfl⟩, fun q => absurd q h, fun q => absurd q h⟩
theorem isP_old {l : List ItemL} {x : Int} {m : List (ByteArray × Int)} (h : WinP l ∧ StampP m ∧ m ≠ []) (ht : ¬ TakeP l m) : IsP l x m l 2 := ⟨fun q => absurd h q, fun _ _ => ⟨rfl, rfl⟩, fun _ q => absurd q ht⟩
theorem isP_taken {l : List ItemL} {x : Int} {m : List (ByteArray × Int)} (h : WinP l ∧ StampP m ∧ m ≠ []) (ht : TakeP l m) : IsP l x m (putL l (x, m)) 0 := ⟨fun q => absurd h q, fun _ q => absurd ht q, fun _ _ => ⟨rfl, rfl⟩⟩
theorem putL_room {l : List ItemL} {it : ItemL} (h : l.length < 4) : putL l it = l ++ [it] := if_pos h
theorem putL_full {l : List ItemL} {it : ItemL} (h : ¬ l.length < 4) : putL l it = l.tail ++ [it] := if_neg h

theorem stamps_put {l : List ItemL} {x : Int} {m : List (ByteArray × Int)} (h : ∀ k, (h : k < l.length) → StampP l[k].2) (hm : StampP m) : ∀ k, (hk : k < (l ++ [(x, m)]).length) → StampP (l ++ [(x, m)])[k].2 := fun k hk => by
  by_cases e : k < l.length
  · rw [List.getElem_append_left e]; exact h k e
  · rw [List.getElem_append_right (by omega)]
    simp only [List.getElem_singleton]
    exact hm
theorem stamps_tail {l : List ItemL} (h : ∀ k, (h : k < l.length) → StampP l[k].2) : ∀ k, (hk : k < l.tail.length) → StampP l.tail[k].2 := fun k hk => by
  rw [List.getElem_tail]
  exact h _ _

theorem GathI.slice {w : World} {B : Nat} {v : Value} {l : List ItemL} (h : GathI w B v l) : ∃ a n cap, v = .slice a n cap := by
  obtain ⟨a, cap, rfl, _⟩ := h.len
  exact ⟨_, _, _, rfl⟩

theorem rowI_tail {w : World} {b o : Nat} {l : List ItemL} {it : ItemL} (h : RowI w (some ⟨b, o, none⟩) (l ++ [it])) (h0 : 0 < l.length) : RowI w (some ⟨b, o + 2, none⟩) (l.tail ++ [it]) := fun k hk => by
  cases l with
  | nil => simp at h0
  | cons y t =>
    obtain ⟨b', o', ha, hlt, c0, v, c1, hv⟩ := h (k + 1) (by simpa using hk)
    obtain ⟨rfl, rfl⟩ : b = b' ∧ o = o' := by simpa using ha
    have e : o + (k + 1) * 2 = o + 2 + k * 2 := by omega
    rw [e] at c0 c1
    exact ⟨b, _, rfl, hlt, by simpa using c0, v, by simpa using c1, by simpa using hv⟩
theorem small_tail {l : List ItemL} {x : Int} {m : List (ByteArray × Int)} (h : Small1 l) (hm : m.length ≤ 1048576) (h4 : l.length = 4) : Small1 (l.tail ++ [(x, m)]) := ⟨by simp; omega, fun j hj => by
  by_cases e : j < l.tail.length
  · rw [List.getElem_append_left e, List.getElem_tail]; exact h.2 _ _
  · rw [List.getElem_append_right (by omega)]
    simp only [List.getElem_singleton]
    exact hm⟩

/-- How WindowPut ends: items in new memory, and the code. -/
def PutE (w' : World) (B : Nat) (l : List ItemL) (x : Int) (m : List (ByteArray × Int)) (e : Ending) : Prop := ∃ v r c, e = .returned (.tuple #[v, .int .i64 c]) ∧ IsP l x m r c ∧ GathI w' B v r

set_option maxHeartbeats 3200000 in
theorem implPut_any (a : Option Addr) (cap : Nat) (l : List ItemL) (x : Int) (am : Option Addr) (cm : Nat) (m : List (ByteArray × Int)) (w : World) (hf : FitI l) (hr : RowI w a l) (hfm : FitM m) (hcm : m.length ≤ cm) (hrm : Row w am m) :
    Calls Tryz.prog 90 #[.slice a l.length cap, .agg #[.int .i64 x, .slice am m.length cm]] w fun e w' => PutE w' w.heap.size l x m e ∧ Below w.heap.size w w' := by
  have hl := hf.1
  unfold maxLen at hl
  have hb0 : Below w.heap.size w (w.alloc (.cells #[.int .i64 x, .slice am m.length cm] 44)) := (Below.refl _ _).alloc (Nat.le_refl _) _
  have d0 := box0 w (.int .i64 x) (.slice am m.length cm) 44
  have d1 := box1 w (.int .i64 x) (.slice am m.length cm) 44
  have hlt := box_lt w (.cells #[.int .i64 x, .slice am m.length cm] 44)
  go_enter Tryz.func90, Tryz.ntmps90
  go_wp2_with fail
  generalize w.alloc (.cells #[.int .i64 x, .slice am m.length cm] 44) = W1 at *
  refine (readWindow_any a cap l _ hf (hr.below hb0)).mono ?_
  rintro e w2 ⟨hE, b2⟩
  have B2 : Below w.heap.size w w2 := hb0.trans (b2.mono hb0.size)
  have BW : Below W1.heap.size W1 w2 := b2
  have hzW := BW.size
  have hrm1 := hrm.below hb0
  have hz1 := hb0.size
  replace d0 := cell_on b2 hlt d0
  replace d1 := cell_on b2 hlt d1
  have hlt2 : w.heap.size < w2.heap.size := Nat.lt_of_lt_of_le hlt b2.size
  clear hb0 b2 hrm
  rcases hE with ⟨v, rfl, hp, hv⟩ | ⟨v, rfl, hp, hv⟩
  · have HP : Hid (WinP l) := hp
    clear hp
    obtain ⟨x0, x1, x2, x3, a0, a1, a2, a3, n0, n1, n2, n3, c0, c1, c2, c3, rfl, hw⟩ := hv.laid
    have hW := hw w2 BW.size
    have hbx : Below w2.heap.size w2 (w2.alloc (.cells #[.int .i64 x0, .slice a0 n0 c0, .int .i64 x1, .slice a1 n1 c1, .int .i64 x2, .slice a2 n2 c2, .int .i64 x3, .slice a3 n3 c3, .int .i64 0, .int .i64 l.length] 190)) := (Below.refl _ _).alloc (Nat.le_refl _) _
    have B3 := B2.trans (hbx.mono B2.size)
    have BW3 := BW.trans (hbx.mono BW.size)
    have D0 : Hid _ := cell_on hbx hlt2 d0
    have D1 : Hid _ := cell_on hbx hlt2 d1
    have hlt3 : w.heap.size < (w2.alloc (.cells #[.int .i64 x0, .slice a0 n0 c0, .int .i64 x1, .slice a1 n1 c1, .int .i64 x2, .slice a2 n2 c2, .int .i64 x3, .slice a3 n3 c3, .int .i64 0, .int .i64 l.length] 190)).heap.size := Nat.lt_of_lt_of_le hlt2 hbx.size
    clear hw hv hbx
    go_wp2_with fail
    have e0 := D0.out
    have e1 := D1.out
    clear D0 D1 d0 d1
    generalize w2.alloc (.cells #[.int .i64 x0, .slice a0 n0 c0, .int .i64 x1, .slice a1 n1 c1, .int .i64 x2, .slice a2 n2 c2, .int .i64 x3, .slice a3 n3 c3, .int .i64 0, .int .i64 l.length] 190) = W3 at *
    clear B2 BW
    refine (itemOk_any x am cm m _ (hrm1.below BW3) hfm).mono ?_
    rintro e w4 ⟨⟨r, rfl, hr4⟩, b4⟩
    have HR4 : Hid (r = true ↔ StampP m ∧ m ≠ []) := hr4
    have B4 : Below w.heap.size w w4 := B3.trans (b4.mono B3.size)
    have BW4 : Below W1.heap.size W1 w4 := BW3.trans (b4.mono BW3.size)
    replace e0 := cell_on b4 hlt3 e0
    replace e1 := cell_on b4 hlt3 e1
    replace hW := hW.below b4
    have hlt4 : w.heap.size < w4.heap.size := Nat.lt_of_lt_of_le hlt3 b4.size
    clear hr4 b4 B3 BW3
    cases r
    · have HN : Hid (¬ (WinP l ∧ StampP m ∧ m ≠ [])) := fun h => by simpa using HR4.out.2 h.2
      clear HR4
      go_wp2_with fail
      exact bodyPost_ret (v := .tuple #[.slice none 0 0, .int .i64 1]) (by simp [results, Tryz.results90, go_sem]) rfl ⟨⟨_, [], 1, rfl, isP_bad HN.out, gathI_none _ _⟩, B4⟩
    · have HM : Hid (WinP l ∧ StampP m ∧ m ≠ []) := ⟨HP.out, HR4.out.1 rfl⟩
      have HSL : Hid (∀ k, (h : k < l.length) → StampP l[k].2) := fun k h => (HP.out.2.1 k h).1
      clear HR4
      go_wp2_with fail
      refine (takes_any W1 w4 _ 0 l x _ m hW BW4 HSL.out ⟨am, cm, rfl, hcm, hrm1⟩ HM.out.2.1).mono ?_
      rintro e w5 ⟨⟨r, rfl, hr5⟩, b5⟩
      have HR5 : Hid (r = true ↔ TakeP l m) := hr5
      have B5 : Below w.heap.size w w5 := B4.trans (b5.mono B4.size)
      have BW5 : Below W1.heap.size W1 w5 := BW4.trans (b5.mono BW4.size)
      replace e0 := cell_on b5 hlt4 e0
      replace e1 := cell_on b5 hlt4 e1
      replace hW := hW.below b5
      have hz5 := B5.size
      clear hr5 b5 B4 BW4
      cases r
      · have HN : Hid (¬ TakeP l m) := fun h => by simpa using HR5.out.2 h
        clear HR5
        go_wp2_with fail
        refine (items_any W1 w5 _ 0 l hW BW5 HSL.out).mono ?_
        rintro e w6 ⟨⟨v, rfl, hg⟩, b6⟩
        have B6 : Below w.heap.size w w6 := B5.trans (b6.mono B5.size)
        obtain ⟨ag, cg, rfl, _⟩ := hg.len
        have HG : Hid (GathI w6 w5.heap.size (.slice ag l.length cg) l) := hg
        clear hg b6 B5 e0 e1 hW
        go_wp2_with fail
        exact bodyPost_ret (v := .tuple #[.slice ag l.length cg, .int .i64 2]) (by simp [results, Tryz.results90, go_sem]) rfl ⟨⟨_, l, 2, rfl, isP_old HM.out HN.out, HG.out.lower hz5⟩, B6⟩
      · have HT : Hid (TakeP l m) := HR5.out.1 (by trivial)
        clear HR5
        by_cases h4 : l.length < 4
        · have HPL : Hid (putL l (x, m) = l ++ [(x, m)]) := putL_room h4
          have HS6 : Hid (∀ k, (h : k < (l ++ [(x, m)]).length) → StampP (l ++ [(x, m)])[k].2) := stamps_put HSL.out HM.out.2.1
          go_wp2_with fail
          refine (push_room W1 w5 _ 0 l x _ m hW ⟨am, cm, rfl, hcm, hrm1⟩ h4).mono ?_
          rintro e w6 ⟨rfl, hW6, b6⟩
          have B6 : Below w.heap.size w w6 := B5.trans (b6.below (by omega) hz5)
          have BW6 : Below W1.heap.size W1 w6 := BW5.trans (b6.below (by omega) BW5.size)
          have hz6 := B6.size
          clear b6 B5 BW5 e0 e1 hW
          go_wp2_with fail
          refine (items_any W1 w6 _ 0 (l ++ [(x, m)]) hW6 BW6 HS6.out).mono ?_
          rintro e w7 ⟨⟨v, rfl, hg⟩, b7⟩
          have B7 : Below w.heap.size w w7 := B6.trans (b7.mono B6.size)
          obtain ⟨ag, q, cg, rfl⟩ := hg.slice
          have HG : Hid (GathI w7 w6.heap.size (.slice ag q cg) (l ++ [(x, m)])) := hg
          clear hg b7 B6 hW6
          go_wp2_with fail
          exact bodyPost_ret (v := .tuple #[.slice ag q cg, .int .i64 0]) (by simp [results, Tryz.results90, go_sem]) rfl ⟨⟨_, l ++ [(x, m)], 0, rfl, by rw [← HPL.out]; exact isP_taken HM.out HT.out, HG.out.lower hz6⟩, B7⟩
        · have HPL : Hid (putL l (x, m) = l.tail ++ [(x, m)]) := putL_full h4
          have HS6 : Hid (∀ k, (h : k < (l.tail ++ [(x, m)]).length) → StampP (l.tail ++ [(x, m)])[k].2) := stamps_put (stamps_tail HSL.out) HM.out.2.1
          go_wp2_with fail
          refine (push_full W1 w5 _ 0 l x _ m hW ⟨am, cm, rfl, hcm, hrm1⟩ (by have := HP.out.1; omega)).mono ?_
          rintro e w6 ⟨rfl, hW6, b6⟩
          have B6 : Below w.heap.size w w6 := B5.trans (b6.below (by omega) hz5)
          have BW6 : Below W1.heap.size W1 w6 := BW5.trans (b6.below (by omega) BW5.size)
          have hz6 := B6.size
          clear b6 B5 BW5 e0 e1 hW
          go_wp2_with fail
          refine (items_any W1 w6 _ ((0 + 1) % 4) (l.tail ++ [(x, m)]) hW6 BW6 HS6.out).mono ?_
          rintro e w7 ⟨⟨v, rfl, hg⟩, b7⟩
          have B7 : Below w.heap.size w w7 := B6.trans (b7.mono B6.size)
          obtain ⟨ag, q, cg, rfl⟩ := hg.slice
          have HG : Hid (GathI w7 w6.heap.size (.slice ag q cg) (l.tail ++ [(x, m)])) := hg
          clear hg b7 B6 hW6
          go_wp2_with fail
          exact bodyPost_ret (v := .tuple #[.slice ag q cg, .int .i64 0]) (by simp [results, Tryz.results90, go_sem]) rfl ⟨⟨_, l.tail ++ [(x, m)], 0, rfl, by rw [← HPL.out]; exact isP_taken HM.out HT.out, HG.out.lower hz6⟩, B7⟩
  · have HN : Hid (¬ (WinP l ∧ StampP m ∧ m ≠ [])) := fun h => hp h.1
    obtain ⟨x0, x1, x2, x3, a0, a1, a2, a3, n0, n1, n2, n3, c0, c1, c2, c3, rfl, hw⟩ := hv.laid
    clear hp hv hw
    go_wp2_with fail
    exact bodyPost_ret (v := .tuple #[.slice none 0 0, .int .i64 1]) (by simp [results, Tryz.results90, go_sem]) rfl ⟨⟨_, [], 1, rfl, isP_bad HN.out, gathI_none _ _⟩, B2.alloc B2.size _⟩

set_option maxHeartbeats 3200000 in
theorem specPut_any (a : Option Addr) (cap : Nat) (l : List ItemL) (x : Int) (am : Option Addr) (cm : Nat) (m : List (ByteArray × Int)) (w : World) (hf : FitI l) (hr : RowI w a l) (hfm : FitM m) (hrm : Row w am m) :
    Calls Tryz.prog 42 #[.slice a l.length cap, .agg #[.int .i64 x, .slice am m.length cm]] w fun e w' => PutE w' w.heap.size l x m e ∧ Below w.heap.size w w' := by
  have hl := hf.1
  unfold maxLen at hl
  have hb0 : Below w.heap.size w (w.alloc (.cells #[.int .i64 x, .slice am m.length cm] 44)) := (Below.refl _ _).alloc (Nat.le_refl _) _
  have d0 := box0 w (.int .i64 x) (.slice am m.length cm) 44
  have d1 := box1 w (.int .i64 x) (.slice am m.length cm) 44
  have hlt := box_lt w (.cells #[.int .i64 x, .slice am m.length cm] 44)
  go_enter Tryz.func42, Tryz.ntmps42
  go_wp2_with fail
  generalize w.alloc (.cells #[.int .i64 x, .slice am m.length cm] 44) = W1 at *
  refine (specWinOk_any a cap l _ hf (hr.below hb0)).mono ?_
  rintro e w2 ⟨⟨r, rfl, hr2⟩, b2⟩
  have HR2 : Hid (r = true ↔ WinP l) := hr2
  have B2 : Below w.heap.size w w2 := hb0.trans (b2.mono hb0.size)
  replace d0 := cell_on b2 hlt d0
  replace d1 := cell_on b2 hlt d1
  have hlt2 : w.heap.size < w2.heap.size := Nat.lt_of_lt_of_le hlt b2.size
  clear hb0 b2 hr2 hlt
  cases r
  · have HN : Hid (¬ (WinP l ∧ StampP m ∧ m ≠ [])) := fun h => by simpa using HR2.out.2 h.1
    clear HR2
    go_wp2_with fail
    exact bodyPost_ret (v := .tuple #[.slice none 0 0, .int .i64 1]) (by simp [results, Tryz.results42, go_sem]) rfl ⟨⟨_, [], 1, rfl, isP_bad HN.out, gathI_none _ _⟩, B2⟩
  have HP : Hid (WinP l) := HR2.out.1 rfl
  clear HR2
  go_wp2_with fail
  refine (specOk_b am cm m _ hfm.1 (hrm.below B2) hfm.2).mono ?_
  rintro e w3 ⟨⟨r, rfl, hr3⟩, b3⟩
  have HR3 : Hid (r = true ↔ StampP m) := hr3
  have B3 : Below w.heap.size w w3 := B2.trans (b3.mono B2.size)
  replace d0 := cell_on b3 hlt2 d0
  replace d1 := cell_on b3 hlt2 d1
  have hlt3 : w.heap.size < w3.heap.size := Nat.lt_of_lt_of_le hlt2 b3.size
  clear b3 hr3 hlt2 B2
  cases r
  · have HN : Hid (¬ (WinP l ∧ StampP m ∧ m ≠ [])) := fun h => by simpa using HR3.out.2 h.2.1
    clear HR3
    go_wp2_with fail
    exact bodyPost_ret (v := .tuple #[.slice none 0 0, .int .i64 1]) (by simp [results, Tryz.results42, go_sem]) rfl ⟨⟨_, [], 1, rfl, isP_bad HN.out, gathI_none _ _⟩, B3⟩
  have HSM : Hid (StampP m) := HR3.out.1 rfl
  clear HR3
  by_cases hz : m.length = 0
  · have hz' : ((m.length : Int) == 0) = true := by rw [beq_iff_eq]; omega
    have HN : Hid (¬ (WinP l ∧ StampP m ∧ m ≠ [])) := fun h => h.2.2 (List.length_eq_zero_iff.1 hz)
    clear hz
    go_wp2_with fail
    exact bodyPost_ret (v := .tuple #[.slice none 0 0, .int .i64 1]) (by simp [results, Tryz.results42, go_sem]) rfl ⟨⟨_, [], 1, rfl, isP_bad HN.out, gathI_none _ _⟩, B3⟩
  have hz' : ((m.length : Int) == 0) = false := by rw [beq_eq_false_iff_ne]; omega
  have HM : Hid (WinP l ∧ StampP m ∧ m ≠ []) := ⟨HP.out, HSM.out, fun e => hz (by rw [e]; rfl)⟩
  clear hz HSM
  go_wp2_with fail
  refine (l2Items_any a cap l _ (win_small HP.out) (hr.below B3)).mono ?_
  rintro e w4 ⟨⟨v, rfl, hg⟩, b4⟩
  have B4 : Below w.heap.size w w4 := B3.trans (b4.mono B3.size)
  replace d0 := cell_on b4 hlt3 d0
  replace d1 := cell_on b4 hlt3 d1
  have hlt4 : w.heap.size < w4.heap.size := Nat.lt_of_lt_of_le hlt3 b4.size
  have hz3 := B3.size
  have hz4 := b4.size
  obtain ⟨ag, cg, rfl, hcg⟩ := hg.len
  clear b4 B3
  by_cases h0 : 0 < l.length
  · obtain ⟨b, o, rfl, hblt, f0, v, f1, ⟨s2, t2, rfl, _, r2⟩⟩ := hr (l.length - 1) (by omega)
    have fk := hf.2 (l.length - 1) (by omega)
    have k3 : (0 : Int) ≤ (l.length : Int) - 1 := by omega
    have hkm : ((l.length : Int) - 1) = ((l.length - 1 : Nat) : Int) := by omega
    obtain ⟨q, hq⟩ : ∃ q : Bool, q = true ↔ AboveP (l[l.length - 1]'(by omega)).2 m := boolOf _
    have HQ : Hid (q = true ↔ TakeP l m) := ⟨fun h _ => hq.1 h, fun h => hq.2 (h h0)⟩
    have HQ' : Hid (q = true ↔ AboveP (l[l.length - 1]'(by omega)).2 m) := hq
    have g0 := cell_on B4 hblt f0
    have g1 := cell_on B4 hblt f1
    have hb4 : b < w4.heap.size := Nat.lt_of_lt_of_le hblt B4.size
    have hne := Lat.some w4
    have r4 := r2.below B4
    have rm4 := hrm.below B4
    have ce : ∀ n : Lat w4, Calls Tryz.prog 82 #[.agg #[.int .i64 (l[l.length - 1]'(by omega)).1, .slice s2 (l[l.length - 1]'(by omega)).2.length t2], .agg #[.int .i64 x, .slice am m.length cm]] n.w fun e w'' => e = .returned (.bool q) ∧ Below n.w.heap.size n.w w'' := fun n =>
      (l2Above_any _ _ s2 am t2 cm _ _ n.w fk hfm (r4.below n.h) (rm4.below n.h)).mono fun _ _ ⟨⟨q', he, hq'⟩, hb'⟩ => ⟨by rw [he, show q' = q by rw [Bool.eq_iff_iff, hq', HQ'.out]], hb'⟩
    have q0 : ∀ n : Lat w4, n.w.cell? ⟨b, o + (l.length - 1) * 2, none⟩ = some (.int .i64 (l[l.length - 1]'(by omega)).1) := fun n => n.cell hb4 g0
    have q1 : ∀ n : Lat w4, n.w.cell? ⟨b, o + (l.length - 1) * 2 + 1, none⟩ = some (.slice s2 (l[l.length - 1]'(by omega)).2.length t2) := fun n => n.cell hb4 g1
    have q2 : ∀ n : Lat w4, n.w.cell? ⟨w.heap.size, 0, none⟩ = some (.int .i64 x) := fun n => n.cell hlt4 d0
    have q3 : ∀ n : Lat w4, n.w.cell? ⟨w.heap.size, 1, none⟩ = some (.slice am m.length cm) := fun n => n.cell hlt4 d1
    clear hq f0 f1
    go_wp2_with fail
    refine wp_region_lat (by kernel_rfl) (by kernel_rfl) ?_
    repeat (go_big_quiet_step ((go_at_call 82; exact Calls.lat_of (ce _))))
    refine wpQuiet_nil ?_
    rintro _ ⟨nq, rfl⟩
    have B5 : Below w.heap.size w nq.w := B4.trans (nq.h.mono B4.size)
    have hg5 := hg.keep nq.h
    have hz45 := nq.h.size
    have e0 := q2 nq
    have e1 := q3 nq
    clear ce q0 q1 q2 q3 hg g0 g1 HQ' r4 rm4
    cases q
    · have HN : Hid (¬ TakeP l m) := fun h => by simpa using HQ.out.2 h
      have HG : Hid (GathI nq.w w3.heap.size (.slice ag l.length cg) l) := hg5
      clear HQ hg5
      go_wp2_with fail
      exact bodyPost_ret (v := .tuple #[.slice ag l.length cg, .int .i64 2]) (by simp [results, Tryz.results42, go_sem]) rfl ⟨⟨_, l, 2, rfl, isP_old HM.out HN.out, HG.out.lower hz3⟩, B5⟩
    · have HT : Hid (TakeP l m) := HQ.out.1 rfl
      clear HQ
      go_wp2_with fail
      have SW : ((nq.w).drew).cell? ⟨w.heap.size, 0, none⟩ = some (.int .i64 x) ∧ ((nq.w).drew).cell? ⟨w.heap.size, 1, none⟩ = some (.slice am m.length cm) := ⟨e0, e1⟩
      have hz5 := B5.size
      have rm5 := hrm.below B5
      have hbd : Below (nq.w).heap.size (nq.w) (nq.w).drew := (Below.refl _ _).drew
      have hm12 : m.length ≤ 1048576 := by have := HM.out.2.1.1; omega
      have hll : l.length ≤ 1048576 := by have := HP.out.1; omega
      refine wp_region_held_drew (S := fun u => u.cell? ⟨w.heap.size, 0, none⟩ = some (.int .i64 x) ∧ u.cell? ⟨w.heap.size, 1, none⟩ = some (.slice am m.length cm)) (by kernel_rfl) SW (fun _ => ?_)
      refine wpAnyH_take (i := 0) (v := .slice ag l.length cg) rfl (by kernel_rfl) (by kernel_rfl) (by kernel_rfl) (fun _ _ _ h => h) (Or.inl ⟨by rfl, ?_⟩) SW ?_
      · rintro u ⟨q1, q2⟩
        go_simp
      simp only [Act.put, List.setIfInBounds_toArray]
      refine wpAnyH_take (i := 1) (v := .pointer (some ⟨w.heap.size, 0, none⟩)) rfl (by kernel_rfl) (by kernel_rfl) (by kernel_rfl) (fun _ _ _ h => h) (Or.inl ⟨by rfl, ?_⟩) SW ?_
      · rintro u ⟨q1, q2⟩
        go_simp
      simp only [Act.put]
      refine wpAnyH_take (i := 2) (v := .int .i64 x) rfl (by kernel_rfl) (by kernel_rfl) (by kernel_rfl) (fun _ _ _ h => h) (Or.inl ⟨by rfl, ?_⟩) SW ?_
      · rintro u ⟨q1, q2⟩
        go_simp
      simp only [Act.put]
      refine wpAnyH_take (i := 3) (v := .pointer (some ⟨w.heap.size, 1, none⟩)) rfl (by kernel_rfl) (by kernel_rfl) (by kernel_rfl) (fun _ _ _ h => h) (Or.inl ⟨by rfl, ?_⟩) SW ?_
      · rintro u ⟨q1, q2⟩
        go_simp
      simp only [Act.put]
      refine wpAnyH_take (i := 4) (v := .slice am m.length cm) rfl (by kernel_rfl) (by kernel_rfl) (by kernel_rfl) (fun _ _ _ h => h) (Or.inl ⟨by rfl, ?_⟩) SW ?_
      · rintro u ⟨q1, q2⟩
        go_simp
      simp only [Act.put]
      refine wpAnyH_ready (rs := [5]) (by kernel_rfl) (by simp) ?_
      refine AllReadyH.cons rfl (fun K hK => ?_) AllReadyH.nil
      rw [if_pos (by rfl)]
      go_simp
      refine (l2Marks_any am cm m _ (rm5.below hbd) hm12).mono ?_
      rintro e w6 ⟨⟨gm, cq, rfl, hgm, hcm, ho⟩, b6⟩
      have b6' : Below (nq.w).heap.size (nq.w) w6 := hbd.trans (b6.mono hbd.size)
      have B6 : Below w.heap.size w w6 := B5.trans (b6'.mono hz5)
      have hgm' : (nq.w).heap.size ≤ gm := hgm
      have hw5 : w.heap.size < (nq.w).heap.size := block_lt_of_cell e0
      have S2 : w6.cell? ⟨w.heap.size, 0, none⟩ = some (.int .i64 x) ∧ w6.cell? ⟨w.heap.size, 1, none⟩ = some (.slice am m.length cm) := ⟨cell_on b6' hw5 e0, cell_on b6' hw5 e1⟩
      refine hK.out _ _ S2 (fun _ => ?_)
      clear hK K b6 SW hbd
      refine wpAnyH_take (i := 6) (v := .agg #[.int .i64 x, .slice (some ⟨gm, 0, none⟩) m.length cq]) rfl (by kernel_rfl) (by kernel_rfl) (by kernel_rfl) (fun _ _ _ h => h) (Or.inl ⟨by rfl, ?_⟩) S2 ?_
      · rintro u ⟨q1, q2⟩
        go_simp
      simp only [Act.put, List.setIfInBounds_toArray]
      refine wpAnyH_ready (rs := [7]) (by kernel_rfl) (by simp) ?_
      refine AllReadyH.cons rfl (fun K hK => ?_) AllReadyH.nil
      rw [if_pos (by rfl)]
      go_simp
      have b7 : Below (nq.w).heap.size (nq.w) (w6.alloc (.cells #[.int .i64 x, .slice (some ⟨gm, 0, none⟩) m.length cq] 44)) := b6'.alloc b6'.size _
      have S3 : (w6.alloc (.cells #[.int .i64 x, .slice (some ⟨gm, 0, none⟩) m.length cq] 44)).cell? ⟨w.heap.size, 0, none⟩ = some (.int .i64 x) ∧ (w6.alloc (.cells #[.int .i64 x, .slice (some ⟨gm, 0, none⟩) m.length cq] 44)).cell? ⟨w.heap.size, 1, none⟩ = some (.slice am m.length cm) := ⟨cell_on b7 hw5 e0, cell_on b7 hw5 e1⟩
      have hbx : Below w6.heap.size w6 (w6.alloc (.cells #[.int .i64 x, .slice (some ⟨gm, 0, none⟩) m.length cq] 44)) := (Below.refl _ _).alloc (Nat.le_refl _) _
      have B7 : Below w.heap.size w (w6.alloc (.cells #[.int .i64 x, .slice (some ⟨gm, 0, none⟩) m.length cq] 44)) := B6.trans (hbx.mono B6.size)
      refine hK.out _ _ S3 (fun _ => ?_)
      clear hK K
      refine wpAnyH_ready (rs := [8]) (by kernel_rfl) (by simp) ?_
      refine AllReadyH.cons rfl (fun K hK => ?_) AllReadyH.nil
      rw [if_pos (by rfl)]
      refine wp_append_item _ _ rfl (nq.w) w3.heap.size _ l rfl hg5 b7 (by omega) w6.heap.size x m gm cq rfl (box0 _ _ _ _) (box1 _ _ _ _) (ho.below hbx) hgm' hcm hll ?_
      intro v' w8 hg8 b8
      have B8 : Below w.heap.size w w8 := B7.trans (b8.mono hz3)
      have S4 : w8.cell? ⟨w.heap.size, 0, none⟩ = some (.int .i64 x) ∧ w8.cell? ⟨w.heap.size, 1, none⟩ = some (.slice am m.length cm) := ⟨(b8.cell (p := ⟨w.heap.size, 0, none⟩) hlt3).trans S3.1, (b8.cell (p := ⟨w.heap.size, 1, none⟩) hlt3).trans S3.2⟩
      refine hK.out _ _ S4 (fun _ => ?_)
      clear hK K
      refine wpAnyH_ready (rs := [9]) (by kernel_rfl) (by simp) ?_
      refine AllReadyH.cons rfl (fun K hK => ?_) AllReadyH.nil
      rw [if_pos (by rfl)]
      go_simp
      refine hK.out _ _ S4 (fun _ => ?_)
      clear hK K
      refine wpAnyH_done (by kernel_rfl) ?_ _
      obtain ⟨a8, c8, rfl, hc8⟩ := hg8.len
      clear S2 S3 S4 b6' b7 b8 hbx B6 B7 ho e0 e1 hg5 rm5
      have hlen : (l ++ [(x, m)]).length = l.length + 1 := by simp
      rw [hlen] at hg8
      rw [hlen]
      have hcl : (((l.length + 1 : Nat) : Int)) = (l.length : Int) + 1 := by omega
      by_cases h4 : l.length < 4
      · have HPL : Hid (putL l (x, m) = l ++ [(x, m)]) := putL_room h4
        have HG : Hid (GathI w8 w3.heap.size (.slice a8 (l.length + 1) c8) (l ++ [(x, m)])) := hg8
        clear hg8 hlen hc8
        go_wp2_with fail
        exact bodyPost_ret (v := .tuple #[.slice a8 (l.length + 1) c8, .int .i64 0]) (by simp [results, Tryz.results42, go_sem]) rfl ⟨⟨_, l ++ [(x, m)], 0, rfl, by rw [← HPL.out]; exact isP_taken HM.out HT.out, HG.out.lower hz3⟩, B8⟩
      · have HPL : Hid (putL l (x, m) = l.tail ++ [(x, m)]) := putL_full h4
        have h4' : l.length = 4 := by have := HP.out.1; omega
        obtain ⟨ga, gc, hge, _, hsa⟩ := hg8.safe
        obtain ⟨rfl, rfl⟩ : a8 = ga ∧ c8 = gc := by
          rw [hlen] at hge
          simpa using hge
        obtain ⟨g8, rfl⟩ : ∃ g8, a8 = some ⟨g8, 0, none⟩ := by
          rcases hsa with hs | ⟨g, hg, _⟩
          · simp at hs
          · exact ⟨g, hg⟩
        have hrt := rowI_tail (l := l) hsa.row (by omega)
        have hsm : Small1 (l.tail ++ [(x, m)]) := small_tail (win_small HP.out) hm12 h4'
        have hlt' : (l.tail ++ [(x, m)]).length = 4 := by simp; omega
        rw [hlen] at hc8
        clear hg8 hlen hsa hge
        go_wp2_with fail
        have hcall := l2Items_any (some ⟨g8, 2, none⟩) (c8 - 1) (l.tail ++ [(x, m)]) w8 hsm hrt
        rw [hlt'] at hcall
        refine hcall.mono ?_
        rintro e w9 ⟨⟨v, rfl, hg9⟩, b9⟩
        have B9 : Below w.heap.size w w9 := B8.trans (b9.mono B8.size)
        have hz8 := B8.size
        obtain ⟨a9, q9, c9, rfl⟩ := hg9.slice
        have HG : Hid (GathI w9 w8.heap.size (.slice a9 q9 c9) (l.tail ++ [(x, m)])) := hg9
        clear hg9 b9 hcall hrt hsm
        go_wp2_with fail
        exact bodyPost_ret (v := .tuple #[.slice a9 q9 c9, .int .i64 0]) (by simp [results, Tryz.results42, go_sem]) rfl ⟨⟨_, l.tail ++ [(x, m)], 0, rfl, by rw [← HPL.out]; exact isP_taken HM.out HT.out, HG.out.lower hz8⟩, B9⟩
  · obtain rfl : l = [] := List.length_eq_zero_iff.1 (by omega)
    have HT : Hid (TakeP [] m) := fun h => absurd h (by simp)
    go_wp2_with fail
    go_quiet (fail)
    go_wp2_with fail
    have b5 : Below w4.heap.size w4 (w4.drewN nq) := below_drewN (Below.refl _ _) _
    have e0 := cell_on b5 hlt4 d0
    have e1 := cell_on b5 hlt4 d1
    replace hg := hg.keep b5
    replace B4 := B4.trans (b5.mono B4.size)
    have hz45 := b5.size
    generalize w4.drewN nq = W5 at *
    clear b5 d0 d1
    have SW : ((W5).drew).cell? ⟨w.heap.size, 0, none⟩ = some (.int .i64 x) ∧ ((W5).drew).cell? ⟨w.heap.size, 1, none⟩ = some (.slice am m.length cm) := ⟨e0, e1⟩
    have hz5 := B4.size
    have rm5 := hrm.below B4
    have hbd : Below (W5).heap.size (W5) (W5).drew := (Below.refl _ _).drew
    have hm12 : m.length ≤ 1048576 := by have := HM.out.2.1.1; omega
    have hll : ([] : List ItemL).length ≤ 1048576 := by simp
    refine wp_region_held_drew (S := fun u => u.cell? ⟨w.heap.size, 0, none⟩ = some (.int .i64 x) ∧ u.cell? ⟨w.heap.size, 1, none⟩ = some (.slice am m.length cm)) (by kernel_rfl) SW (fun _ => ?_)
    refine wpAnyH_take (i := 0) (v := .slice ag 0 cg) rfl (by kernel_rfl) (by kernel_rfl) (by kernel_rfl) (fun _ _ _ h => h) (Or.inl ⟨by rfl, ?_⟩) SW ?_
    · rintro u ⟨q1, q2⟩
      go_simp
    simp only [Act.put, List.setIfInBounds_toArray]
    refine wpAnyH_take (i := 1) (v := .pointer (some ⟨w.heap.size, 0, none⟩)) rfl (by kernel_rfl) (by kernel_rfl) (by kernel_rfl) (fun _ _ _ h => h) (Or.inl ⟨by rfl, ?_⟩) SW ?_
    · rintro u ⟨q1, q2⟩
      go_simp
    simp only [Act.put]
    refine wpAnyH_take (i := 2) (v := .int .i64 x) rfl (by kernel_rfl) (by kernel_rfl) (by kernel_rfl) (fun _ _ _ h => h) (Or.inl ⟨by rfl, ?_⟩) SW ?_
    · rintro u ⟨q1, q2⟩
      go_simp
    simp only [Act.put]
    refine wpAnyH_take (i := 3) (v := .pointer (some ⟨w.heap.size, 1, none⟩)) rfl (by kernel_rfl) (by kernel_rfl) (by kernel_rfl) (fun _ _ _ h => h) (Or.inl ⟨by rfl, ?_⟩) SW ?_
    · rintro u ⟨q1, q2⟩
      go_simp
    simp only [Act.put]
    refine wpAnyH_take (i := 4) (v := .slice am m.length cm) rfl (by kernel_rfl) (by kernel_rfl) (by kernel_rfl) (fun _ _ _ h => h) (Or.inl ⟨by rfl, ?_⟩) SW ?_
    · rintro u ⟨q1, q2⟩
      go_simp
    simp only [Act.put]
    refine wpAnyH_ready (rs := [5]) (by kernel_rfl) (by simp) ?_
    refine AllReadyH.cons rfl (fun K hK => ?_) AllReadyH.nil
    rw [if_pos (by rfl)]
    go_simp
    refine (l2Marks_any am cm m _ (rm5.below hbd) hm12).mono ?_
    rintro e w6 ⟨⟨gm, cq, rfl, hgm, hcm, ho⟩, b6⟩
    have b6' : Below (W5).heap.size (W5) w6 := hbd.trans (b6.mono hbd.size)
    have B6 : Below w.heap.size w w6 := B4.trans (b6'.mono hz5)
    have hgm' : (W5).heap.size ≤ gm := hgm
    have hw5 : w.heap.size < (W5).heap.size := block_lt_of_cell e0
    have S2 : w6.cell? ⟨w.heap.size, 0, none⟩ = some (.int .i64 x) ∧ w6.cell? ⟨w.heap.size, 1, none⟩ = some (.slice am m.length cm) := ⟨cell_on b6' hw5 e0, cell_on b6' hw5 e1⟩
    refine hK.out _ _ S2 (fun _ => ?_)
    clear hK K b6 SW hbd
    refine wpAnyH_take (i := 6) (v := .agg #[.int .i64 x, .slice (some ⟨gm, 0, none⟩) m.length cq]) rfl (by kernel_rfl) (by kernel_rfl) (by kernel_rfl) (fun _ _ _ h => h) (Or.inl ⟨by rfl, ?_⟩) S2 ?_
    · rintro u ⟨q1, q2⟩
      go_simp
    simp only [Act.put, List.setIfInBounds_toArray]
    refine wpAnyH_ready (rs := [7]) (by kernel_rfl) (by simp) ?_
    refine AllReadyH.cons rfl (fun K hK => ?_) AllReadyH.nil
    rw [if_pos (by rfl)]
    go_simp
    have b7 : Below (W5).heap.size (W5) (w6.alloc (.cells #[.int .i64 x, .slice (some ⟨gm, 0, none⟩) m.length cq] 44)) := b6'.alloc b6'.size _
    have S3 : (w6.alloc (.cells #[.int .i64 x, .slice (some ⟨gm, 0, none⟩) m.length cq] 44)).cell? ⟨w.heap.size, 0, none⟩ = some (.int .i64 x) ∧ (w6.alloc (.cells #[.int .i64 x, .slice (some ⟨gm, 0, none⟩) m.length cq] 44)).cell? ⟨w.heap.size, 1, none⟩ = some (.slice am m.length cm) := ⟨cell_on b7 hw5 e0, cell_on b7 hw5 e1⟩
    have hbx : Below w6.heap.size w6 (w6.alloc (.cells #[.int .i64 x, .slice (some ⟨gm, 0, none⟩) m.length cq] 44)) := (Below.refl _ _).alloc (Nat.le_refl _) _
    have B7 : Below w.heap.size w (w6.alloc (.cells #[.int .i64 x, .slice (some ⟨gm, 0, none⟩) m.length cq] 44)) := B6.trans (hbx.mono B6.size)
    refine hK.out _ _ S3 (fun _ => ?_)
    clear hK K
    refine wpAnyH_ready (rs := [8]) (by kernel_rfl) (by simp) ?_
    refine AllReadyH.cons rfl (fun K hK => ?_) AllReadyH.nil
    rw [if_pos (by rfl)]
    refine wp_append_item _ _ rfl (W5) w3.heap.size _ [] rfl hg b7 (by omega) w6.heap.size x m gm cq rfl (box0 _ _ _ _) (box1 _ _ _ _) (ho.below hbx) hgm' hcm hll ?_
    intro v' w8 hg8 b8
    have B8 : Below w.heap.size w w8 := B7.trans (b8.mono hz3)
    have S4 : w8.cell? ⟨w.heap.size, 0, none⟩ = some (.int .i64 x) ∧ w8.cell? ⟨w.heap.size, 1, none⟩ = some (.slice am m.length cm) := ⟨(b8.cell (p := ⟨w.heap.size, 0, none⟩) hlt3).trans S3.1, (b8.cell (p := ⟨w.heap.size, 1, none⟩) hlt3).trans S3.2⟩
    refine hK.out _ _ S4 (fun _ => ?_)
    clear hK K
    refine wpAnyH_ready (rs := [9]) (by kernel_rfl) (by simp) ?_
    refine AllReadyH.cons rfl (fun K hK => ?_) AllReadyH.nil
    rw [if_pos (by rfl)]
    go_simp
    refine hK.out _ _ S4 (fun _ => ?_)
    clear hK K
    refine wpAnyH_done (by kernel_rfl) ?_ _
    obtain ⟨a8, c8, rfl, hc8⟩ := hg8.len
    clear S2 S3 S4 b6' b7 b8 hbx B6 B7 ho e0 e1 hg rm5
    have HPL : Hid (putL [] (x, m) = [] ++ [(x, m)]) := putL_room (by simp)
    have HG : Hid (GathI w8 w3.heap.size (.slice a8 1 c8) ([] ++ [(x, m)])) := hg8
    clear hg8 hc8
    go_wp2_with fail
    exact bodyPost_ret (v := .tuple #[.slice a8 1 c8, .int .i64 0]) (by simp [results, Tryz.results42, go_sem]) rfl ⟨⟨_, [] ++ [(x, m)], 0, rfl, by rw [← HPL.out]; exact isP_taken HM.out HT.out, HG.out.lower hz3⟩, B8⟩

end Go.Proofs.YtpfhegengmlkmacGreatDoor
/- What WindowPut answers is few items with stamps. -/
namespace Go.Proofs.YtpfhegengmlkmacGreatDoor
open Go.RowKit Go.BigFrame
set_option maxRecDepth 100000

theorem lens_le {l : List ItemL} {n : Nat} (h : ∀ j, (hj : j < l.length) → l[j].2.length ≤ n) : lens l ≤ l.length * n := by
  induction l with
  | nil => simp [lens]
  | cons y t ih =>
    have h0 := h 0 (by simp)
    have ht := ih (fun j hj => by have := h (j + 1) (by simpa using hj); simpa using this)
    simp only [lens, List.length_cons, List.getElem_cons_zero] at h0 ⊢
    rw [Nat.succ_mul]
    omega
/-- Items with stamps alone. -/
def StampsP (l : List ItemL) : Prop := l.length ≤ 5 ∧ ∀ j, (hj : j < l.length) → StampP l[j].2
theorem StampsP.fit {l : List ItemL} (h : StampsP l) : FitI l := ⟨by have := h.1; unfold maxLen; omega, fun j hj => stamp_fit (h.2 j hj)⟩
theorem StampsP.small {l : List ItemL} (h : StampsP l) : Small1 l := ⟨by have := h.1; omega, fun j hj => by have := (h.2 j hj).1; omega⟩
theorem StampsP.lens {l : List ItemL} (h : StampsP l) : lens l ≤ 60 := by
  have h1 := lens_le (n := 12) (fun j hj => (h.2 j hj).1)
  have := h.1
  omega
theorem isP_stamps {l : List ItemL} {x : Int} {m : List (ByteArray × Int)} {r : List ItemL} {c : Int} (h : IsP l x m r c) : StampsP r := by
  by_cases hp : WinP l ∧ StampP m ∧ m ≠ []
  · have hs : ∀ k, (h : k < l.length) → StampP l[k].2 := fun k hk => (hp.1.2.1 k hk).1
    have h4 := hp.1.1
    by_cases ht : TakeP l m
    · rw [(h.2.2 hp ht).1]
      unfold putL
      split
      · exact ⟨by simp; omega, stamps_put hs hp.2.1⟩
      · exact ⟨by simp; omega, stamps_put (stamps_tail hs) hp.2.1⟩
    · rw [(h.2.1 hp ht).1]
      exact ⟨by omega, hs⟩
  · rw [(h.1 hp).1]
    exact ⟨by simp, fun j hj => absurd hj (Nat.not_lt_zero j)⟩

end Go.Proofs.YtpfhegengmlkmacGreatDoor
/- Walks: freshItems. -/
namespace Go.Proofs.YtpfhegengmlkmacGreatDoor
open Go.RowKit Go.BigFrame
set_option maxRecDepth 100000

set_option maxHeartbeats 1600000 in
theorem freshItems_any (a : Option Addr) (c : Nat) (l : List ItemL) (w : World) (hr : RowI w a l) (hn : l.length ≤ 1048576) (hl : ∀ k, (h : k < l.length) → StampP l[k].2) :
    Calls Tryz.prog 133 #[.slice a l.length c] w fun e w' => (∃ v, e = .returned v ∧ GathI w' w.heap.size v l) ∧ Below w.heap.size w w' := by
  obtain ⟨i0, hi, hz0, hz1, hz2⟩ := info_parts Tryz.infoI
  have hmk : ∀ u : World, (Instr.makeSlice 78 (.int .i64 0) (.int .i64 (l.length : Int))).run Tryz.prog u =
      .ok (.slice (some ⟨u.heap.size, 0, none⟩) 0 l.length) (u.alloc (.cells (madeCells #[.int .i64 0, .slice none 0 0] (l.length * 2)) 44)) := fun u => by
    have h := run_make (P := Tryz.prog) u 78 44 i0 (.agg #[.int .i64 0, .slice none 0 0]) Tryz.underlying78 hi hz0 .i64 .i64 0 (l.length : Int) (by omega) (by omega) (by rw [hz2]; omega) (by omega)
    simpa [hz1, Value.cells] using h
  have hb0 : Below w.heap.size w (w.alloc (.cells (madeCells #[.int .i64 0, .slice none 0 0] (l.length * 2)) 44)) := (Below.refl _ _).alloc (Nat.le_refl _) _
  have hg0 : GathI (w.alloc (.cells (madeCells #[.int .i64 0, .slice none 0 0] (l.length * 2)) 44)) w.heap.size (.slice (some ⟨w.heap.size, 0, none⟩) 0 l.length) [] :=
    ⟨[], rfl, ⟨rfl, .inr ⟨w.heap.size, l.length, madeCells #[.int .i64 0, .slice none 0 0] (l.length * 2), rfl, Nat.le_refl _, heap_alloc_new w _, Nat.zero_le _, by unfold maxLen; omega, size_madeCells _ _, rfl⟩⟩, by simp, List.Pairwise.nil⟩
  have HSL : Hid (∀ k, (h : k < l.length) → StampP l[k].2) := hl
  clear hl
  go_enter Tryz.func133, Tryz.ntmps133
  go_wp2_with fail
  generalize (w.alloc (.cells (madeCells #[.int .i64 0, .slice none 0 0] (l.length * 2)) 44)) = W1 at *
  clear hmk
  go_loopw [3, 11] (fun out i wr => ∃ k : Nat, k ≤ l.length ∧ i = .int .i64 k ∧ GathI wr w.heap.size out (l.take k) ∧ Below w.heap.size w wr) (fun _ i _ => l.length - (intOf i).toNat)
  case atStart => exact ⟨0, Nat.zero_le _, rfl, hg0, hb0⟩
  case round =>
    obtain ⟨k, hk, rfl, hg, hb⟩ := hrel
    clear hg0 hb0
    by_cases hlt : k < l.length
    · obtain ⟨b, o, rfl, hblt, c0, v, c1, ⟨sa, sc, rfl, hcap, hrow⟩⟩ := hr.below hb k hlt
      have k0 : (0 : Int) ≤ (k : Int) := by omega
      have k1 : (k : Int) < (l.length : Int) := by omega
      have HT : Hid (l.take (k + 1) = l.take k ++ [(l[k].1, l[k].2)]) := List.take_succ_eq_append_getElem hlt
      have htl : (l.take k).length ≤ 1048576 := by rw [List.length_take]; omega
      have hzr := hb.size
      have hst := HSL.out k hlt
      have hlk : l[k].2.length ≤ 1048576 := by have := hst.1; omega
      have HL : Hid (∀ j, (h : j < l[k].2.length) → l[k].2[j].1.size ≤ 281474976710656) := fun j hj => by have := (hst.2.1 j hj).1.2.1; omega
      clear hst
      go_wp2_with fail
      have b3 : Below wr.heap.size wr (wr.alloc (.cells #[.int .i64 l[k].1, .slice sa l[k].2.length sc] 44)) := (Below.refl _ _).alloc (Nat.le_refl _) _
      refine (freshItem_any l[k].1 sa sc l[k].2 _ (hrow.below b3) hlk HL.out).mono ?_
      rintro e w4 ⟨⟨gm, cm, rfl, hgm, hcm, ho⟩, b4⟩
      have b4' : Below wr.heap.size wr w4 := b3.trans (b4.mono b3.size)
      have z3 := b3.size
      have z4 := b4'.size
      have b5 : Below wr.heap.size wr (w4.alloc (.cells #[.int .i64 l[k].1, .slice (some ⟨gm, 0, none⟩) l[k].2.length cm] 44)) := b4'.alloc b4'.size _
      have hbx : Below w4.heap.size w4 (w4.alloc (.cells #[.int .i64 l[k].1, .slice (some ⟨gm, 0, none⟩) l[k].2.length cm] 44)) := (Below.refl _ _).alloc (Nat.le_refl _) _
      have ho5 := ho.below hbx
      have B5 : Below w.heap.size w (w4.alloc (.cells #[.int .i64 l[k].1, .slice (some ⟨gm, 0, none⟩) l[k].2.length cm] 44)) := hb.trans (b5.mono hzr)
      clear b3 b4 b4' hrow hbx ho
      go_wp2_with (at_builtin; refine wpList_append_item rfl _ _ rfl wr w.heap.size _ (l.take k) rfl hg b5 hzr w4.heap.size l[k].1 l[k].2 gm cm rfl (box0 _ _ _ _) (box1 _ _ _ _) ho5 (by omega) hcm htl ?_; intro v' w6 hg6 b6)
      exact ⟨⟨k + 1, by omega, by go_num, by rw [HT.out]; exact hg6, B5.trans b6⟩, by simp [intOf]; omega⟩
    · rw [List.take_of_length_le (by omega)] at hg
      go_wp2_with fail
      go_ret
      exact ⟨⟨_, rfl, hg⟩, hb⟩

end Go.Proofs.YtpfhegengmlkmacGreatDoor
/- Walk: toGather. -/
namespace Go.Proofs.YtpfhegengmlkmacGreatDoor
open Go.RowKit Go.BigFrame

theorem PartS.setOther {w : World} {b k : Nat} {l : List ByteArray} (h : PartS w b l k) {q : Nat} (hq : b ≠ q) (i : Nat) (v : Value) : PartS (w.setCell ⟨q, i, none⟩ v) b l k := by
  obtain ⟨f, h, hf⟩ := h
  exact ⟨f, h.of_block (Below.heap_setCell _ _ _ _ (by simp only; omega)), hf⟩
theorem PartW.setBelow {w : World} {lo T g k q : Nat} {ws : List (List ItemL)} (h : PartW w lo T g ws k) (hq : q < lo) (hg : g ≠ q) (i : Nat) (v : Value) : PartW (w.setCell ⟨q, i, none⟩ v) lo T g ws k := by
  obtain ⟨L, U, G, f, h, hf, hd⟩ := h
  refine ⟨L, U, G, f, h.of_block (Below.heap_setCell _ _ _ _ (by simp only; omega)), fun j hj hk => ?_, hd⟩
  obtain ⟨h1, h2, h3, h4, h5, h6⟩ := hf j hj hk
  exact ⟨h1, h2.setBelow (by omega) (by omega) _ _, h3, h4, h5, h6⟩

set_option maxHeartbeats 3200000 in
theorem toGather_any (a0 a1 a2 : Option Addr) (c0 c1 c2 : Nat) (g : GatL) (w : World) (r0 : RowS w a0 g.ins) (r1 : RowW w a1 g.wins) (r2 : Row w a2 g.shown) (hs : SmallG 1048576 g) :
    Calls Tryz.prog 9 #[.agg #[.slice a0 g.ins.length c0, .slice a1 g.wins.length c1, .slice a2 g.shown.length c2]] w fun e w' => (∃ b0 b1 b2 lo hi, e = .returned (.agg #[.slice (some ⟨b0, 0, none⟩) g.ins.length g.ins.length, .slice (some ⟨b1, 0, none⟩) g.wins.length g.wins.length, .slice (some ⟨b2, 0, none⟩) g.shown.length g.shown.length]) ∧
      w.heap.size ≤ b0 ∧ b0 < b1 ∧ b1 < lo ∧ (lo ≤ hi ∧ hi ≤ b2) ∧ PartS w' b0 g.ins g.ins.length ∧ PartW w' lo hi b1 g.wins g.wins.length ∧ Own w' b2 g.shown) ∧ Below w.heap.size w w' := by
  have hl0 : g.ins.length ≤ 1048576 := by have := hs.ins.1; omega
  have hl1 : g.wins.length ≤ 1048576 := by have := hs.wins.1; omega
  have hl2 : g.shown.length ≤ 1048576 := by have := hs.shown.1; omega
  have hw : ∀ j, (h : j < g.wins.length) → g.wins[j].length ≤ 1048576 ∧ ∀ i, (h' : i < g.wins[j].length) → g.wins[j][i].2.length ≤ 1048576 := fun j hj => ⟨by have := (hs.wins.2 j hj).1; omega, fun i hi => by have := ((hs.wins.2 j hj).2 i hi).1; omega⟩
  clear hs
  have hb0 : Below w.heap.size w (((w.alloc (.cells #[.slice a0 g.ins.length c0, .slice a1 g.wins.length c1, .slice a2 g.shown.length c2] 26)).alloc (.cells #[.slice none 0 0, .slice none 0 0, .slice none 0 0] 36)).alloc (.cells #[.slice none 0 0, .slice none 0 0, .slice none 0 0] 36)) := (((Below.refl _ _).alloc (Nat.le_refl _) _).alloc (by simp) _).alloc (by simp; omega) _
  have hsz : (((w.alloc (.cells #[.slice a0 g.ins.length c0, .slice a1 g.wins.length c1, .slice a2 g.shown.length c2] 26)).alloc (.cells #[.slice none 0 0, .slice none 0 0, .slice none 0 0] 36)).alloc (.cells #[.slice none 0 0, .slice none 0 0, .slice none 0 0] 36)).heap.size = w.heap.size + 3 := by simp
  have x1 : (((w.alloc (.cells #[.slice a0 g.ins.length c0, .slice a1 g.wins.length c1, .slice a2 g.shown.length c2] 26)).alloc (.cells #[.slice none 0 0, .slice none 0 0, .slice none 0 0] 36)).alloc (.cells #[.slice none 0 0, .slice none 0 0, .slice none 0 0] 36)).cell? ⟨w.heap.size, 1, none⟩ = some (.slice a1 g.wins.length c1) := by simp [go_sem]
  have x2 : (((w.alloc (.cells #[.slice a0 g.ins.length c0, .slice a1 g.wins.length c1, .slice a2 g.shown.length c2] 26)).alloc (.cells #[.slice none 0 0, .slice none 0 0, .slice none 0 0] 36)).alloc (.cells #[.slice none 0 0, .slice none 0 0, .slice none 0 0] 36)).cell? ⟨w.heap.size, 2, none⟩ = some (.slice a2 g.shown.length c2) := by simp [go_sem]
  have y0 : (((w.alloc (.cells #[.slice a0 g.ins.length c0, .slice a1 g.wins.length c1, .slice a2 g.shown.length c2] 26)).alloc (.cells #[.slice none 0 0, .slice none 0 0, .slice none 0 0] 36)).alloc (.cells #[.slice none 0 0, .slice none 0 0, .slice none 0 0] 36)).cell? ⟨w.heap.size + 1, 0, none⟩ = some (.slice none 0 0) := by simp [go_sem]
  have fy0 : (((w.alloc (.cells #[.slice a0 g.ins.length c0, .slice a1 g.wins.length c1, .slice a2 g.shown.length c2] 26)).alloc (.cells #[.slice none 0 0, .slice none 0 0, .slice none 0 0] 36)).alloc (.cells #[.slice none 0 0, .slice none 0 0, .slice none 0 0] 36)).frozen? ⟨w.heap.size + 1, 0, none⟩ = false := by simp [go_sem]
  have y1 : (((w.alloc (.cells #[.slice a0 g.ins.length c0, .slice a1 g.wins.length c1, .slice a2 g.shown.length c2] 26)).alloc (.cells #[.slice none 0 0, .slice none 0 0, .slice none 0 0] 36)).alloc (.cells #[.slice none 0 0, .slice none 0 0, .slice none 0 0] 36)).cell? ⟨w.heap.size + 1, 1, none⟩ = some (.slice none 0 0) := by simp [go_sem]
  have fy1 : (((w.alloc (.cells #[.slice a0 g.ins.length c0, .slice a1 g.wins.length c1, .slice a2 g.shown.length c2] 26)).alloc (.cells #[.slice none 0 0, .slice none 0 0, .slice none 0 0] 36)).alloc (.cells #[.slice none 0 0, .slice none 0 0, .slice none 0 0] 36)).frozen? ⟨w.heap.size + 1, 1, none⟩ = false := by simp [go_sem]
  have y2 : (((w.alloc (.cells #[.slice a0 g.ins.length c0, .slice a1 g.wins.length c1, .slice a2 g.shown.length c2] 26)).alloc (.cells #[.slice none 0 0, .slice none 0 0, .slice none 0 0] 36)).alloc (.cells #[.slice none 0 0, .slice none 0 0, .slice none 0 0] 36)).cell? ⟨w.heap.size + 1, 2, none⟩ = some (.slice none 0 0) := by simp [go_sem]
  have fy2 : (((w.alloc (.cells #[.slice a0 g.ins.length c0, .slice a1 g.wins.length c1, .slice a2 g.shown.length c2] 26)).alloc (.cells #[.slice none 0 0, .slice none 0 0, .slice none 0 0] 36)).alloc (.cells #[.slice none 0 0, .slice none 0 0, .slice none 0 0] 36)).frozen? ⟨w.heap.size + 1, 2, none⟩ = false := by simp [go_sem]
  have z0 : (((w.alloc (.cells #[.slice a0 g.ins.length c0, .slice a1 g.wins.length c1, .slice a2 g.shown.length c2] 26)).alloc (.cells #[.slice none 0 0, .slice none 0 0, .slice none 0 0] 36)).alloc (.cells #[.slice none 0 0, .slice none 0 0, .slice none 0 0] 36)).cell? ⟨w.heap.size + 1 + 1, 0, none⟩ = some (.slice none 0 0) := by simp [go_sem]
  have fz0 : (((w.alloc (.cells #[.slice a0 g.ins.length c0, .slice a1 g.wins.length c1, .slice a2 g.shown.length c2] 26)).alloc (.cells #[.slice none 0 0, .slice none 0 0, .slice none 0 0] 36)).alloc (.cells #[.slice none 0 0, .slice none 0 0, .slice none 0 0] 36)).frozen? ⟨w.heap.size + 1 + 1, 0, none⟩ = false := by simp [go_sem]
  have z1 : (((w.alloc (.cells #[.slice a0 g.ins.length c0, .slice a1 g.wins.length c1, .slice a2 g.shown.length c2] 26)).alloc (.cells #[.slice none 0 0, .slice none 0 0, .slice none 0 0] 36)).alloc (.cells #[.slice none 0 0, .slice none 0 0, .slice none 0 0] 36)).cell? ⟨w.heap.size + 1 + 1, 1, none⟩ = some (.slice none 0 0) := by simp [go_sem]
  have fz1 : (((w.alloc (.cells #[.slice a0 g.ins.length c0, .slice a1 g.wins.length c1, .slice a2 g.shown.length c2] 26)).alloc (.cells #[.slice none 0 0, .slice none 0 0, .slice none 0 0] 36)).alloc (.cells #[.slice none 0 0, .slice none 0 0, .slice none 0 0] 36)).frozen? ⟨w.heap.size + 1 + 1, 1, none⟩ = false := by simp [go_sem]
  have z2 : (((w.alloc (.cells #[.slice a0 g.ins.length c0, .slice a1 g.wins.length c1, .slice a2 g.shown.length c2] 26)).alloc (.cells #[.slice none 0 0, .slice none 0 0, .slice none 0 0] 36)).alloc (.cells #[.slice none 0 0, .slice none 0 0, .slice none 0 0] 36)).cell? ⟨w.heap.size + 1 + 1, 2, none⟩ = some (.slice none 0 0) := by simp [go_sem]
  have fz2 : (((w.alloc (.cells #[.slice a0 g.ins.length c0, .slice a1 g.wins.length c1, .slice a2 g.shown.length c2] 26)).alloc (.cells #[.slice none 0 0, .slice none 0 0, .slice none 0 0] 36)).alloc (.cells #[.slice none 0 0, .slice none 0 0, .slice none 0 0] 36)).frozen? ⟨w.heap.size + 1 + 1, 2, none⟩ = false := by simp [go_sem]
  go_enter Tryz.func9, Tryz.ntmps9
  go_wp2_with fail
  generalize ((w.alloc (.cells #[.slice a0 g.ins.length c0, .slice a1 g.wins.length c1, .slice a2 g.shown.length c2] 26)).alloc (.cells #[.slice none 0 0, .slice none 0 0, .slice none 0 0] 36)).alloc (.cells #[.slice none 0 0, .slice none 0 0, .slice none 0 0] 36) = W0 at *
  refine (toStringS_any a0 c0 g.ins _ hl0 (r0.below hb0)).mono ?_
  rintro e w1 ⟨rfl, hp1, b1⟩
  have B1 : Below w.heap.size w w1 := hb0.trans (b1.mono hb0.size)
  have g1 := hp1.lt
  rw [hsz] at hp1 g1
  replace x1 := cell_on b1 (by omega) x1
  replace x2 := cell_on b1 (by omega) x2
  replace y0 := cell_on b1 (by omega) y0
  replace y1 := cell_on b1 (by omega) y1
  replace y2 := cell_on b1 (by omega) y2
  replace z0 := cell_on b1 (by omega) z0
  replace z1 := cell_on b1 (by omega) z1
  replace z2 := cell_on b1 (by omega) z2
  replace fy0 := (b1.frozen (p := ⟨w.heap.size + 1, 0, none⟩) (by simp only; omega)).trans fy0
  replace fy1 := (b1.frozen (p := ⟨w.heap.size + 1, 1, none⟩) (by simp only; omega)).trans fy1
  replace fy2 := (b1.frozen (p := ⟨w.heap.size + 1, 2, none⟩) (by simp only; omega)).trans fy2
  replace fz0 := (b1.frozen (p := ⟨w.heap.size + 1 + 1, 0, none⟩) (by simp only; omega)).trans fz0
  replace fz1 := (b1.frozen (p := ⟨w.heap.size + 1 + 1, 1, none⟩) (by simp only; omega)).trans fz1
  replace fz2 := (b1.frozen (p := ⟨w.heap.size + 1 + 1, 2, none⟩) (by simp only; omega)).trans fz2
  clear b1 hb0
  go_wp2_with fail
  have hs0 : (w1.setCell ⟨w.heap.size + 1 + 1, 0, none⟩ (.slice (some ⟨w.heap.size + 3, 0, none⟩) g.ins.length g.ins.length)).heap.size = w1.heap.size := by simp
  replace x1 : (w1.setCell ⟨w.heap.size + 1 + 1, 0, none⟩ (.slice (some ⟨w.heap.size + 3, 0, none⟩) g.ins.length g.ins.length)).cell? ⟨w.heap.size, 1, none⟩ = some (.slice a1 g.wins.length c1) := by simp [go_sem, x1]
  replace x2 : (w1.setCell ⟨w.heap.size + 1 + 1, 0, none⟩ (.slice (some ⟨w.heap.size + 3, 0, none⟩) g.ins.length g.ins.length)).cell? ⟨w.heap.size, 2, none⟩ = some (.slice a2 g.shown.length c2) := by simp [go_sem, x2]
  replace y0 : (w1.setCell ⟨w.heap.size + 1 + 1, 0, none⟩ (.slice (some ⟨w.heap.size + 3, 0, none⟩) g.ins.length g.ins.length)).cell? ⟨w.heap.size + 1, 0, none⟩ = some (.slice none 0 0) := by simp [go_sem, y0]
  replace y1 : (w1.setCell ⟨w.heap.size + 1 + 1, 0, none⟩ (.slice (some ⟨w.heap.size + 3, 0, none⟩) g.ins.length g.ins.length)).cell? ⟨w.heap.size + 1, 1, none⟩ = some (.slice none 0 0) := by simp [go_sem, y1]
  replace y2 : (w1.setCell ⟨w.heap.size + 1 + 1, 0, none⟩ (.slice (some ⟨w.heap.size + 3, 0, none⟩) g.ins.length g.ins.length)).cell? ⟨w.heap.size + 1, 2, none⟩ = some (.slice none 0 0) := by simp [go_sem, y2]
  replace z0 : (w1.setCell ⟨w.heap.size + 1 + 1, 0, none⟩ (.slice (some ⟨w.heap.size + 3, 0, none⟩) g.ins.length g.ins.length)).cell? ⟨w.heap.size + 1 + 1, 0, none⟩ = some (.slice (some ⟨w.heap.size + 3, 0, none⟩) g.ins.length g.ins.length) := by simp [go_sem, z0]
  replace z1 : (w1.setCell ⟨w.heap.size + 1 + 1, 0, none⟩ (.slice (some ⟨w.heap.size + 3, 0, none⟩) g.ins.length g.ins.length)).cell? ⟨w.heap.size + 1 + 1, 1, none⟩ = some (.slice none 0 0) := by simp [go_sem, z1]
  replace z2 : (w1.setCell ⟨w.heap.size + 1 + 1, 0, none⟩ (.slice (some ⟨w.heap.size + 3, 0, none⟩) g.ins.length g.ins.length)).cell? ⟨w.heap.size + 1 + 1, 2, none⟩ = some (.slice none 0 0) := by simp [go_sem, z2]
  replace fy0 : (w1.setCell ⟨w.heap.size + 1 + 1, 0, none⟩ (.slice (some ⟨w.heap.size + 3, 0, none⟩) g.ins.length g.ins.length)).frozen? ⟨w.heap.size + 1, 0, none⟩ = false := by simp [go_sem, fy0]
  replace fy1 : (w1.setCell ⟨w.heap.size + 1 + 1, 0, none⟩ (.slice (some ⟨w.heap.size + 3, 0, none⟩) g.ins.length g.ins.length)).frozen? ⟨w.heap.size + 1, 1, none⟩ = false := by simp [go_sem, fy1]
  replace fy2 : (w1.setCell ⟨w.heap.size + 1 + 1, 0, none⟩ (.slice (some ⟨w.heap.size + 3, 0, none⟩) g.ins.length g.ins.length)).frozen? ⟨w.heap.size + 1, 2, none⟩ = false := by simp [go_sem, fy2]
  replace fz0 : (w1.setCell ⟨w.heap.size + 1 + 1, 0, none⟩ (.slice (some ⟨w.heap.size + 3, 0, none⟩) g.ins.length g.ins.length)).frozen? ⟨w.heap.size + 1 + 1, 0, none⟩ = false := by simp [go_sem, fz0]
  replace fz1 : (w1.setCell ⟨w.heap.size + 1 + 1, 0, none⟩ (.slice (some ⟨w.heap.size + 3, 0, none⟩) g.ins.length g.ins.length)).frozen? ⟨w.heap.size + 1 + 1, 1, none⟩ = false := by simp [go_sem, fz1]
  replace fz2 : (w1.setCell ⟨w.heap.size + 1 + 1, 0, none⟩ (.slice (some ⟨w.heap.size + 3, 0, none⟩) g.ins.length g.ins.length)).frozen? ⟨w.heap.size + 1 + 1, 2, none⟩ = false := by simp [go_sem, fz2]
  replace B1 : Below w.heap.size w (w1.setCell ⟨w.heap.size + 1 + 1, 0, none⟩ (.slice (some ⟨w.heap.size + 3, 0, none⟩) g.ins.length g.ins.length)) := B1.setCell (by simp only; omega) _
  replace hp1 : PartS (w1.setCell ⟨w.heap.size + 1 + 1, 0, none⟩ (.slice (some ⟨w.heap.size + 3, 0, none⟩) g.ins.length g.ins.length)) (w.heap.size + 3) g.ins g.ins.length := hp1.setOther (by omega) _ _
  generalize w1.setCell ⟨w.heap.size + 1 + 1, 0, none⟩ (.slice (some ⟨w.heap.size + 3, 0, none⟩) g.ins.length g.ins.length) = W1 at *
  replace hs0 : w1.heap.size ≤ W1.heap.size := by omega
  refine (toItemSS_any a1 c1 g.wins _ hl1 hw (r1.below B1)).mono ?_
  rintro e w2 ⟨rfl, hp2, b2⟩
  have B2 : Below w.heap.size w w2 := B1.trans (b2.mono B1.size)
  have g2 := hp2.lt
  have z2' := b2.size
  replace hp1 := hp1.below (by omega) b2
  replace x2 := cell_on b2 (by omega) x2
  replace y0 := cell_on b2 (by omega) y0
  replace y1 := cell_on b2 (by omega) y1
  replace y2 := cell_on b2 (by omega) y2
  replace z0 := cell_on b2 (by omega) z0
  replace z1 := cell_on b2 (by omega) z1
  replace z2 := cell_on b2 (by omega) z2
  replace fy0 := (b2.frozen (p := ⟨w.heap.size + 1, 0, none⟩) (by simp only; omega)).trans fy0
  replace fy1 := (b2.frozen (p := ⟨w.heap.size + 1, 1, none⟩) (by simp only; omega)).trans fy1
  replace fy2 := (b2.frozen (p := ⟨w.heap.size + 1, 2, none⟩) (by simp only; omega)).trans fy2
  replace fz0 := (b2.frozen (p := ⟨w.heap.size + 1 + 1, 0, none⟩) (by simp only; omega)).trans fz0
  replace fz1 := (b2.frozen (p := ⟨w.heap.size + 1 + 1, 1, none⟩) (by simp only; omega)).trans fz1
  replace fz2 := (b2.frozen (p := ⟨w.heap.size + 1 + 1, 2, none⟩) (by simp only; omega)).trans fz2
  clear b2 B1 x1
  generalize W1.heap.size = lo at *
  go_wp2_with fail
  have hs1 : (w2.setCell ⟨w.heap.size + 1 + 1, 1, none⟩ (.slice (some ⟨lo, 0, none⟩) g.wins.length g.wins.length)).heap.size = w2.heap.size := by simp
  replace x2 : (w2.setCell ⟨w.heap.size + 1 + 1, 1, none⟩ (.slice (some ⟨lo, 0, none⟩) g.wins.length g.wins.length)).cell? ⟨w.heap.size, 2, none⟩ = some (.slice a2 g.shown.length c2) := by simp [go_sem, x2]
  replace y0 : (w2.setCell ⟨w.heap.size + 1 + 1, 1, none⟩ (.slice (some ⟨lo, 0, none⟩) g.wins.length g.wins.length)).cell? ⟨w.heap.size + 1, 0, none⟩ = some (.slice none 0 0) := by simp [go_sem, y0]
  replace y1 : (w2.setCell ⟨w.heap.size + 1 + 1, 1, none⟩ (.slice (some ⟨lo, 0, none⟩) g.wins.length g.wins.length)).cell? ⟨w.heap.size + 1, 1, none⟩ = some (.slice none 0 0) := by simp [go_sem, y1]
  replace y2 : (w2.setCell ⟨w.heap.size + 1 + 1, 1, none⟩ (.slice (some ⟨lo, 0, none⟩) g.wins.length g.wins.length)).cell? ⟨w.heap.size + 1, 2, none⟩ = some (.slice none 0 0) := by simp [go_sem, y2]
  replace z0 : (w2.setCell ⟨w.heap.size + 1 + 1, 1, none⟩ (.slice (some ⟨lo, 0, none⟩) g.wins.length g.wins.length)).cell? ⟨w.heap.size + 1 + 1, 0, none⟩ = some (.slice (some ⟨w.heap.size + 3, 0, none⟩) g.ins.length g.ins.length) := by simp [go_sem, z0]
  replace z1 : (w2.setCell ⟨w.heap.size + 1 + 1, 1, none⟩ (.slice (some ⟨lo, 0, none⟩) g.wins.length g.wins.length)).cell? ⟨w.heap.size + 1 + 1, 1, none⟩ = some (.slice (some ⟨lo, 0, none⟩) g.wins.length g.wins.length) := by simp [go_sem, z1]
  replace z2 : (w2.setCell ⟨w.heap.size + 1 + 1, 1, none⟩ (.slice (some ⟨lo, 0, none⟩) g.wins.length g.wins.length)).cell? ⟨w.heap.size + 1 + 1, 2, none⟩ = some (.slice none 0 0) := by simp [go_sem, z2]
  replace fy0 : (w2.setCell ⟨w.heap.size + 1 + 1, 1, none⟩ (.slice (some ⟨lo, 0, none⟩) g.wins.length g.wins.length)).frozen? ⟨w.heap.size + 1, 0, none⟩ = false := by simp [go_sem, fy0]
  replace fy1 : (w2.setCell ⟨w.heap.size + 1 + 1, 1, none⟩ (.slice (some ⟨lo, 0, none⟩) g.wins.length g.wins.length)).frozen? ⟨w.heap.size + 1, 1, none⟩ = false := by simp [go_sem, fy1]
  replace fy2 : (w2.setCell ⟨w.heap.size + 1 + 1, 1, none⟩ (.slice (some ⟨lo, 0, none⟩) g.wins.length g.wins.length)).frozen? ⟨w.heap.size + 1, 2, none⟩ = false := by simp [go_sem, fy2]
  replace fz0 : (w2.setCell ⟨w.heap.size + 1 + 1, 1, none⟩ (.slice (some ⟨lo, 0, none⟩) g.wins.length g.wins.length)).frozen? ⟨w.heap.size + 1 + 1, 0, none⟩ = false := by simp [go_sem, fz0]
  replace fz1 : (w2.setCell ⟨w.heap.size + 1 + 1, 1, none⟩ (.slice (some ⟨lo, 0, none⟩) g.wins.length g.wins.length)).frozen? ⟨w.heap.size + 1 + 1, 1, none⟩ = false := by simp [go_sem, fz1]
  replace fz2 : (w2.setCell ⟨w.heap.size + 1 + 1, 1, none⟩ (.slice (some ⟨lo, 0, none⟩) g.wins.length g.wins.length)).frozen? ⟨w.heap.size + 1 + 1, 2, none⟩ = false := by simp [go_sem, fz2]
  replace B2 : Below w.heap.size w (w2.setCell ⟨w.heap.size + 1 + 1, 1, none⟩ (.slice (some ⟨lo, 0, none⟩) g.wins.length g.wins.length)) := B2.setCell (by simp only; omega) _
  replace hp1 : PartS (w2.setCell ⟨w.heap.size + 1 + 1, 1, none⟩ (.slice (some ⟨lo, 0, none⟩) g.wins.length g.wins.length)) (w.heap.size + 3) g.ins g.ins.length := hp1.setOther (by omega) _ _
  replace hp2 : PartW (w2.setCell ⟨w.heap.size + 1 + 1, 1, none⟩ (.slice (some ⟨lo, 0, none⟩) g.wins.length g.wins.length)) (lo + 1) w2.heap.size lo g.wins g.wins.length := hp2.setBelow (by omega) (by omega) _ _
  generalize w2.setCell ⟨w.heap.size + 1 + 1, 1, none⟩ (.slice (some ⟨lo, 0, none⟩) g.wins.length g.wins.length) = W2 at *
  replace hs1 : w2.heap.size ≤ W2.heap.size := by omega
  refine (toMarkS_any a2 c2 g.shown _ hl2 (r2.below B2)).mono ?_
  rintro e w3 ⟨rfl, hp3, b3⟩
  have B3 : Below w.heap.size w w3 := B2.trans (b3.mono B2.size)
  have g3 := hp3.lt
  have z3' := b3.size
  replace hp1 := hp1.below (by omega) b3
  replace hp2 := hp2.below b3
  replace y0 := cell_on b3 (by omega) y0
  replace y1 := cell_on b3 (by omega) y1
  replace y2 := cell_on b3 (by omega) y2
  replace z0 := cell_on b3 (by omega) z0
  replace z1 := cell_on b3 (by omega) z1
  replace z2 := cell_on b3 (by omega) z2
  replace fy0 := (b3.frozen (p := ⟨w.heap.size + 1, 0, none⟩) (by simp only; omega)).trans fy0
  replace fy1 := (b3.frozen (p := ⟨w.heap.size + 1, 1, none⟩) (by simp only; omega)).trans fy1
  replace fy2 := (b3.frozen (p := ⟨w.heap.size + 1, 2, none⟩) (by simp only; omega)).trans fy2
  replace fz0 := (b3.frozen (p := ⟨w.heap.size + 1 + 1, 0, none⟩) (by simp only; omega)).trans fz0
  replace fz1 := (b3.frozen (p := ⟨w.heap.size + 1 + 1, 1, none⟩) (by simp only; omega)).trans fz1
  replace fz2 := (b3.frozen (p := ⟨w.heap.size + 1 + 1, 2, none⟩) (by simp only; omega)).trans fz2
  clear b3 B2 x2
  generalize W2.heap.size = hi at *
  go_wp2_with fail
  have e0 : ((((w3.setCell ⟨w.heap.size + 1 + 1, 2, none⟩ (.slice (some ⟨hi, 0, none⟩) g.shown.length g.shown.length)).setCell ⟨w.heap.size + 1, 0, none⟩ (.slice (some ⟨w.heap.size + 3, 0, none⟩) g.ins.length g.ins.length)).setCell ⟨w.heap.size + 1, 1, none⟩ (.slice (some ⟨lo, 0, none⟩) g.wins.length g.wins.length)).setCell ⟨w.heap.size + 1, 2, none⟩ (.slice (some ⟨hi, 0, none⟩) g.shown.length g.shown.length)).cell? ⟨w.heap.size + 1, 0, none⟩ = some (.slice (some ⟨w.heap.size + 3, 0, none⟩) g.ins.length g.ins.length) := by simp [go_sem, y0]
  have e1 : ((((w3.setCell ⟨w.heap.size + 1 + 1, 2, none⟩ (.slice (some ⟨hi, 0, none⟩) g.shown.length g.shown.length)).setCell ⟨w.heap.size + 1, 0, none⟩ (.slice (some ⟨w.heap.size + 3, 0, none⟩) g.ins.length g.ins.length)).setCell ⟨w.heap.size + 1, 1, none⟩ (.slice (some ⟨lo, 0, none⟩) g.wins.length g.wins.length)).setCell ⟨w.heap.size + 1, 2, none⟩ (.slice (some ⟨hi, 0, none⟩) g.shown.length g.shown.length)).cell? ⟨w.heap.size + 1, 1, none⟩ = some (.slice (some ⟨lo, 0, none⟩) g.wins.length g.wins.length) := by simp [go_sem, y1]
  have e2 : ((((w3.setCell ⟨w.heap.size + 1 + 1, 2, none⟩ (.slice (some ⟨hi, 0, none⟩) g.shown.length g.shown.length)).setCell ⟨w.heap.size + 1, 0, none⟩ (.slice (some ⟨w.heap.size + 3, 0, none⟩) g.ins.length g.ins.length)).setCell ⟨w.heap.size + 1, 1, none⟩ (.slice (some ⟨lo, 0, none⟩) g.wins.length g.wins.length)).setCell ⟨w.heap.size + 1, 2, none⟩ (.slice (some ⟨hi, 0, none⟩) g.shown.length g.shown.length)).cell? ⟨w.heap.size + 1, 2, none⟩ = some (.slice (some ⟨hi, 0, none⟩) g.shown.length g.shown.length) := by simp [go_sem, y2]
  exact bodyPost_ret (v := .agg #[.slice (some ⟨w.heap.size + 3, 0, none⟩) g.ins.length g.ins.length, .slice (some ⟨lo, 0, none⟩) g.wins.length g.wins.length, .slice (some ⟨hi, 0, none⟩) g.shown.length g.shown.length]) (by simp [results, Tryz.results9, go_sem, e0, e1, e2]) rfl
    ⟨⟨w.heap.size + 3, lo, hi, lo + 1, w2.heap.size, rfl, by omega, by omega, by omega, by omega, (((hp1.setOther (by omega) _ _).setOther (by omega) _ _).setOther (by omega) _ _).setOther (by omega) _ _, (((hp2.setBelow (by omega) (by omega) _ _).setBelow (by omega) (by omega) _ _).setBelow (by omega) (by omega) _ _).setBelow (by omega) (by omega) _ _, (((hp3.setOther (by omega) _ _).setOther (by omega) _ _).setOther (by omega) _ _).setOther (by omega) _ _⟩,
      (((B3.setCell (by simp only; omega) _).setCell (by simp only; omega) _).setCell (by simp only; omega) _).setCell (by simp only; omega) _⟩

end Go.Proofs.YtpfhegengmlkmacGreatDoor
/- Walks: insOk, l4Ins: which inputs may be. -/
namespace Go.Proofs.YtpfhegengmlkmacGreatDoor
open Go.RowKit Go.BigFrame

/-- From 1 to 6 names, no two alike. -/
def InsP (l : List ByteArray) : Prop := 1 ≤ l.length ∧ l.length ≤ 6 ∧ ∀ i, (h : i < l.length) → NameP l[i] ∧ ∀ k, (hk : k < i) → l[k] ≠ l[i]
/-- The first k of them are so. -/
def InsTo (l : List ByteArray) (n : Nat) : Prop := ∀ i, (h : i < l.length) → i < n → NameP l[i] ∧ ∀ k, (hk : k < i) → l[k] ≠ l[i]
theorem insTo_step {l : List ByteArray} {n : Nat} (h : InsTo l n) (hn : n < l.length) (h1 : NameP l[n]) (h2 : ∀ k, (hk : k < n) → l[k] ≠ l[n]) : InsTo l (n + 1) := fun i hi hlt => by
  by_cases e : i = n
  · subst e; exact ⟨h1, h2⟩
  · exact h i hi (by omega)
theorem RowS.take {w : World} {b o : Nat} {l : List ByteArray} (h : RowS w (some ⟨b, o, none⟩) l) (k : Nat) : RowS w (some ⟨b, o, none⟩) (l.take k) := fun j hj => by
  rw [List.length_take] at hj
  obtain ⟨b', o', e, h1, h2⟩ := h j (by omega)
  exact ⟨b', o', e, h1, by rw [List.getElem_take]; exact h2⟩

set_option maxHeartbeats 800000 in
theorem insOk_any (a : Option Addr) (cap : Nat) (l : List ByteArray) (w : World) (hl : l.length ≤ 1048576) (hc : l.length ≤ cap) (hc2 : cap ≤ maxLen) (hr : RowS w a l) (hs : ∀ j, (h : j < l.length) → l[j].size ≤ maxLen) :
    Calls Tryz.prog 105 #[.slice a l.length cap] w fun e w' => IsB (InsP l) e ∧ w' = w := by
  unfold maxLen at hc2
  by_cases h1 : l.length < 1
  · go_enter Tryz.func105, Tryz.ntmps105
    go_wp2_with fail
    go_ret
    exact ⟨isB_false (fun h => by have := h.1; omega), rfl⟩
  by_cases h6 : 6 < l.length
  · go_enter Tryz.func105, Tryz.ntmps105
    go_wp2_with fail
    go_ret
    exact ⟨isB_false (fun h => by have := h.2.1; omega), rfl⟩
  go_enter Tryz.func105, Tryz.ntmps105
  go_wp2_with fail
  go_loopw [15] (fun i wr => ∃ k : Nat, k ≤ l.length ∧ i = .int .i64 k ∧ Hid (InsTo l k) ∧ wr = w) (fun i _ => l.length - (intOf i).toNat)
  case atStart => exact ⟨0, Nat.zero_le _, rfl, fun _ _ h => absurd h (Nat.not_lt_zero _), rfl⟩
  case round =>
    obtain ⟨k, hk, rfl, HI, rfl⟩ := hrel
    by_cases hlt : k < l.length
    · obtain ⟨b, o, rfl, hblt, c0⟩ := hr k hlt
      have k0 : (0 : Int) ≤ (k : Int) := by omega
      have k1 : (k : Int) < (l.length : Int) := by omega
      have HS := hs k hlt
      have HT : Hid (∀ u : World, u = wr → Calls Tryz.prog 147 #[.slice (some ⟨b, o, none⟩) k cap, .string l[k]] u fun e w' => e = .returned (.bool (amongB (l.take k) l[k])) ∧ w' = u) := fun u hu => by
        have h := contains_any (some ⟨b, o, none⟩) cap (l.take k) l[k] u (by rw [List.length_take]; omega) (hu ▸ hr.take k)
        rwa [List.length_take, Nat.min_eq_left (by omega)] at h
      go_wp2_with fail
      refine (nameOk_any l[k] _ HS).mono ?_
      rintro e w1 ⟨⟨r, rfl, hr1⟩, rfl⟩
      have HR : Hid (r = true ↔ NameP l[k]) := hr1
      clear hr1
      cases r with
      | false =>
        have HN : Hid (¬ InsP l) := fun h => by have h3 := (h.2.2 k hlt).1; have := HR.out.2 h3; simp at this
        go_wp2_with fail
        go_ret
        exact ⟨isB_false HN.out, rfl⟩
      | true =>
        have HP : Hid (NameP l[k]) := HR.out.1 rfl
        go_wp2_with fail
        refine (HT.out _ rfl).mono ?_
        rintro e w1 ⟨rfl, rfl⟩
        cases hq : amongB (l.take k) l[k] with
        | false =>
          have HST : Hid (InsTo l (k + 1)) := insTo_step HI.out hlt HP.out (fun j hj he => by
            have := (among_iff (names := l.take k) (s := l[k])).2 ⟨j, by rw [List.length_take]; omega, by rw [List.getElem_take]; exact he⟩
            rw [hq] at this
            cases this)
          go_wp2_with fail
          exact ⟨⟨k + 1, by omega, by go_num, HST, by trivial⟩, by simp [intOf]; omega⟩
        | true =>
          have HN : Hid (¬ InsP l) := fun h => by
            obtain ⟨j, hj, he⟩ := among_iff.1 hq
            rw [List.length_take] at hj
            rw [List.getElem_take] at he
            exact (h.2.2 k hlt).2 j (by omega) he
          go_wp2_with fail
          go_ret
          exact ⟨isB_false HN.out, rfl⟩
    · have HF : Hid (InsP l) := ⟨by omega, by omega, fun i hi => HI.out i hi (by omega)⟩
      go_wp2_with fail
      go_ret
      exact ⟨isB_true HF.out, rfl⟩

end Go.Proofs.YtpfhegengmlkmacGreatDoor
