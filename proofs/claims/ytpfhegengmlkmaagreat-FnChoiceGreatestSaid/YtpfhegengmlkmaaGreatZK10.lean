/- Texts of this claim, one behind the other. -/
import Derived.Deep.RegionHeld3
import Derived.Test.YtpfhegengmlkmaaGreatZK6
import Derived.Test.YtpfhegengmlkmaaGreatZK8
import Derived.Test.YtpfhegengmlkmaaGreatZK9
namespace Go.Proofs.YtpfhegengmlkmaaGreat
open Go.RowKit Go.BigFrame

theorem PartI.setBelow {w : World} {lo T g k q : Nat} {l : List ItemL} (h : PartI w lo T g l k) (hq : q < lo) (hg : q < g) (i : Nat) (v : Value) : PartI (w.setCell ⟨q, i, none⟩ v) lo T g l k := by
  obtain ⟨G, C, m, f, h, hm, hf, hd⟩ := h
  refine ⟨G, C, m, f, h.of_block (Below.heap_setCell _ _ _ _ (by simp only; omega)), hm, fun j hj hk => ?_, hd⟩
  obtain ⟨h1, h2, h3, h4, h5, h6, h7⟩ := hf j hj hk
  exact ⟨h1, h2, h3, h4.setOther (by omega) _ _, h5, h6, h7⟩
/-- The first 'k' windows of 'ws' lie in block 'g', which has room for all; each window's items lie in blocks of their own, from 'lo' on, one window behind the other, ahead of 'T'. -/
def PartW (w : World) (lo T g : Nat) (ws : List (List ItemL)) (k : Nat) : Prop :=
  ∃ (L U G : Nat → Nat) (f : Nat → Value), w.rowIs g 41 ws.length f ∧
    (∀ j, (h : j < ws.length) → j < k → f j = .slice (some ⟨G j, 0, none⟩) ws[j].length ws[j].length ∧ PartI w (L j) (U j) (G j) ws[j] ws[j].length ∧ lo ≤ L j ∧ L j ≤ G j ∧ G j < U j ∧ U j ≤ T) ∧ ∀ i j, i < j → j < k → U i ≤ L j
theorem PartW.lt {w : World} {lo T g k : Nat} {ws : List (List ItemL)} (h : PartW w lo T g ws k) : g < w.heap.size := by
  obtain ⟨_, _, _, _, h, _⟩ := h
  exact h.lt
theorem PartW.below {w w' : World} {lo T g k : Nat} {ws : List (List ItemL)} (h : PartW w lo T g ws k) (hb : Below w.heap.size w w') : PartW w' lo T g ws k := by
  have hlt := h.lt
  obtain ⟨L, U, G, f, h, hf, hd⟩ := h
  refine ⟨L, U, G, f, h.of_block (hb.block g hlt), fun j hj hk => ?_, hd⟩
  obtain ⟨h1, h2, h3⟩ := hf j hj hk
  exact ⟨h1, h2.below hb, h3⟩
theorem PartW.grow {w : World} {lo T T' g k : Nat} {ws : List (List ItemL)} (h : PartW w lo T g ws k) (hT : T ≤ T') : PartW w lo T' g ws k := by
  obtain ⟨L, U, G, f, h, hf, hd⟩ := h
  refine ⟨L, U, G, f, h, fun j hj hk => ?_, hd⟩
  obtain ⟨h1, h2, h3, h4, h5, h6⟩ := hf j hj hk
  exact ⟨h1, h2, h3, h4, h5, by omega⟩
theorem PartW.made (w : World) (lo : Nat) (ws : List (List ItemL)) (z : Value) : PartW (w.alloc (.cells (madeCells #[z] ws.length) 41)) lo (w.heap.size + 1) w.heap.size ws 0 := by
  refine ⟨fun _ => 0, fun _ => 0, fun _ => 0, fun i => #[z][i % 1]!, ?_, fun j _ h => by omega, fun i j _ h => by omega⟩
  have h := World.rowIs_alloc w (madeCells #[z] ws.length) 41 (fun i => #[z][i % 1]!) (fun i hi => by
    rw [size_madeCells] at hi
    simp [madeCells, hi])
  rwa [size_madeCells] at h
theorem PartW.cell {w : World} {lo T g k : Nat} {ws : List (List ItemL)} (h : PartW w lo T g ws k) {i : Nat} (hi : i < ws.length) : ∃ v, w.cell? ⟨g, i, none⟩ = some v := by
  obtain ⟨_, _, _, f, h, _⟩ := h
  exact ⟨_, h.cell hi⟩
theorem PartW.frozen {w : World} {lo T g k : Nat} {ws : List (List ItemL)} (h : PartW w lo T g ws k) (i : Nat) : w.frozen? ⟨g, i, none⟩ = false := by
  obtain ⟨_, _, _, f, h, _⟩ := h
  exact h.frozen i
theorem PartW.step {w : World} {lo T g k b U' : Nat} {ws : List (List ItemL)} (h : PartW w lo T g ws k) (hk : k < ws.length) (hgl : g < lo) (hT : T ≤ b) (hlo : lo ≤ b) (hU : b < U') (hp : PartI w b U' b ws[k] ws[k].length) :
    PartW (w.setCell ⟨g, k, none⟩ (.slice (some ⟨b, 0, none⟩) ws[k].length ws[k].length)) lo U' g ws (k + 1) := by
  obtain ⟨L, U, G, f, h, hf, hd⟩ := h
  refine ⟨fun j => if j = k then b else L j, fun j => if j = k then U' else U j, fun j => if j = k then b else G j, _, h.set _ _, fun j hj hlt => ?_, fun i j hij hj => ?_⟩
  · by_cases e : j = k
    · subst e
      simp only [if_true]
      exact ⟨by simp, hp.setBelow (by omega) (by omega) _ _, hlo, Nat.le_refl _, hU, Nat.le_refl _⟩
    · obtain ⟨h1, h2, h3, h4, h5, h6⟩ := hf j hj (by omega)
      simp only [if_neg e]
      exact ⟨h1, h2.setBelow (by omega) (by omega) _ _, h3, h4, h5, by omega⟩
  · by_cases e' : j = k
    · subst e'
      have := (hf i (by omega) hij).2.2.2.2.2
      simp only [if_true, if_neg (by omega : ¬ i = j)]
      omega
    · simp only [if_neg e', if_neg (by omega : ¬ i = k)]
      exact hd i j hij (by omega)
theorem PartW.row {w : World} {lo T g : Nat} {ws : List (List ItemL)} (h : PartW w lo T g ws ws.length) : RowW w (some ⟨g, 0, none⟩) ws := fun k hk => by
  obtain ⟨L, U, G, f, h, hf, _⟩ := h
  obtain ⟨h1, h2, _⟩ := hf k hk hk
  exact ⟨g, 0, rfl, h.lt, _, _, by rw [Nat.zero_add, h.cell hk, h1], Nat.le_refl _, h2.row⟩
theorem Tryz.infoW : (Tryz.prog.info? 41).map (fun i => (i.zero, i.size, i.bytes)) = some (some (.slice none 0 0), 1, 24) := by kernel_rfl

end Go.Proofs.YtpfhegengmlkmaaGreat

namespace Go.Proofs.YtpfhegengmlkmaaGreat
open Go.RowKit Go.BigFrame

/-- The windows from place k on, each in blocks of its own. -/
def FromW (w : World) (lo T g : Nat) (ws : List (List ItemL)) (k : Nat) : Prop :=
  ∃ (L U G : Nat → Nat) (f : Nat → Value), w.rowIs g 41 ws.length f ∧
    (∀ j, (h : j < ws.length) → k ≤ j → f j = .slice (some ⟨G j, 0, none⟩) ws[j].length ws[j].length ∧ PartI w (L j) (U j) (G j) ws[j] ws[j].length ∧ lo ≤ L j ∧ L j ≤ G j ∧ G j < U j ∧ U j ≤ T) ∧ ∀ i j, i < j → j < ws.length → U i ≤ L j
theorem PartW.from {w : World} {lo T g : Nat} {ws : List (List ItemL)} (h : PartW w lo T g ws ws.length) : FromW w lo T g ws 0 := by
  obtain ⟨L, U, G, f, h, hf, hd⟩ := h
  exact ⟨L, U, G, f, h, fun j hj _ => hf j hj hj, hd⟩
theorem Span.wide {lo hi lo' hi' : Nat} {w w' : World} (h : Span lo' hi' w w') (h1 : lo ≤ lo') (h2 : hi' ≤ hi) : Span lo hi w w' := ⟨h.os, h.tape, h.output, h.size, fun k hk hn => h.block k hk (by omega)⟩

end Go.Proofs.YtpfhegengmlkmaaGreat

namespace Go.Proofs.YtpfhegengmlkmaaGreat
open Go.RowKit Go.BigFrame
set_option maxRecDepth 100000

set_option maxHeartbeats 800000 in
theorem l2Marks_any (a : Option Addr) (c : Nat) (l : List (ByteArray × Int)) (w : World) (hr : Row w a l) (hl : l.length ≤ 1048576) :
    Calls Tryz.prog 69 #[.slice a l.length c] w fun e w' => (∃ g cap, e = .returned (.slice (some ⟨g, 0, none⟩) l.length cap) ∧ w.heap.size ≤ g ∧ l.length ≤ cap ∧ Own w' g l) ∧ Below w.heap.size w w' := by
  have hba : Below w.heap.size w (w.alloc (.cells #[] 72)) := (Below.refl _ _).alloc (Nat.le_refl _) _
  by_cases hl0 : l.length = 0
  · obtain rfl : l = [] := List.length_eq_zero_iff.1 hl0
    have HE : Hid (Own (w.alloc (.cells #[] 72)) w.heap.size []) := ⟨0, fun _ => undef, ⟨#[], heap_alloc_new w _, rfl, fun i hi => absurd hi (Nat.not_lt_zero i)⟩, by simp, fun k hk => absurd hk (Nat.not_lt_zero k)⟩
    cases a with
    | none =>
      go_enter Tryz.func69, Tryz.ntmps69
      go_wp2_with fail
      go_ret
      exact ⟨⟨_, 0, rfl, Nat.le_refl _, Nat.le_refl _, HE.out⟩, hba⟩
    | some ad =>
      go_enter Tryz.func69, Tryz.ntmps69
      go_wp2_with fail
      go_ret
      exact ⟨⟨_, 0, rfl, Nat.le_refl _, Nat.le_refl _, HE.out⟩, hba⟩
  · obtain ⟨b, o, rfl, _⟩ := hr 0 (by omega)
    have hra := hr.below hba
    go_enter Tryz.func69, Tryz.ntmps69
    go_wp2_with (at_builtin; refine wpList_append_copy rfl _ _ rfl w.heap.size w.heap.size b o c l rfl (heap_alloc_new w _) (Nat.le_refl _) rfl hra (by omega) hl ?_; intro g' cap' w4 hg4 hgrow)
    go_ret
    obtain ⟨h1, h2, h3⟩ := gath_own hg4
    exact ⟨⟨g', cap', rfl, h1, h2, h3⟩, hba.grown hgrow (by simp) (fun k e => by simp at e; omega)⟩

set_option maxHeartbeats 1600000 in
theorem l2Items_any (a : Option Addr) (cap : Nat) (l : List ItemL) (w : World) (hn : Small1 l) (hr : RowI w a l) :
    Calls Tryz.prog 86 #[.slice a l.length cap] w fun e w' => (∃ v, e = .returned v ∧ GathI w' w.heap.size v l) ∧ Below w.heap.size w w' := by
  obtain ⟨i0, hi, hz0, hz1, hz2⟩ := info_parts Tryz.infoI
  have hl := hn.1
  go_enter Tryz.func86, Tryz.ntmps86
  go_wp2_with fail
  go_loopw [3, 4] (fun out i wr => ∃ k : Nat, k ≤ l.length ∧ i = .int .i64 k ∧ GathI wr w.heap.size out (l.take k) ∧ Below w.heap.size w wr) (fun _ i _ => l.length - (intOf i).toNat)
  case atStart => exact ⟨0, Nat.zero_le _, rfl, gathI_none _ _, Below.refl _ _⟩
  case round =>
    obtain ⟨k, hk, rfl, hg, hb⟩ := hrel
    by_cases hlt : k < l.length
    · obtain ⟨b, o, rfl, hbw, cw0, v, cw1, hv⟩ := hr k hlt
      obtain ⟨sa, sc, rfl, hcap, hrow⟩ := hv
      replace hrow := hrow.below hb
      have c0 := cell_on hb hbw cw0
      have c1 := cell_on hb hbw cw1
      have hblt : b < wr.heap.size := Nat.lt_of_lt_of_le hbw hb.size
      have k0 : (0 : Int) ≤ (k : Int) := by omega
      have k1 : (k : Int) < (l.length : Int) := by omega
      have hlk := hn.2 k hlt
      have HT : Hid (l.take (k + 1) = l.take k ++ [(l[k].1, l[k].2)]) := List.take_succ_eq_append_getElem hlt
      have hzr := hb.size
      have htl : (l.take k).length ≤ 1048576 := by rw [List.length_take]; omega
      have SW : (wr.drew).cell? ⟨b, o + k * 2, none⟩ = some (.int .i64 l[k].1) ∧ (wr.drew).cell? ⟨b, o + k * 2 + 1, none⟩ = some (.slice sa l[k].2.length sc) := ⟨c0, c1⟩
      obtain ⟨oa, oc, rfl, _⟩ := hg.len
      have hkl : (l.take k).length = k := by rw [List.length_take]; omega
      rw [hkl] at hg
      clear hkl hcap
      go_wp2_with fail
      refine wp_region_held_drew (S := fun u => u.cell? ⟨b, o + k * 2, none⟩ = some (.int .i64 l[k].1) ∧ u.cell? ⟨b, o + k * 2 + 1, none⟩ = some (.slice sa l[k].2.length sc)) (by kernel_rfl) SW (fun _ => ?_)
      refine wpAnyH_take (i := 0) (v := .slice oa k oc) rfl (by kernel_rfl) (by kernel_rfl) (by kernel_rfl) (fun _ _ _ h => h) (Or.inl ⟨by rfl, ?_⟩) SW ?_
      · rintro u ⟨q1, q2⟩
        go_simp
      simp only [Act.put, List.setIfInBounds_toArray]
      refine wpAnyH_take (i := 1) (v := .slice (some ⟨b, o, none⟩) l.length cap) rfl (by kernel_rfl) (by kernel_rfl) (by kernel_rfl) (fun _ _ _ h => h) (Or.inl ⟨by rfl, ?_⟩) SW ?_
      · rintro u ⟨q1, q2⟩
        go_simp
      simp only [Act.put]
      refine wpAnyH_take (i := 2) (v := .int .i64 k) rfl (by kernel_rfl) (by kernel_rfl) (by kernel_rfl) (fun _ _ _ h => h) (Or.inl ⟨by rfl, ?_⟩) SW ?_
      · rintro u ⟨q1, q2⟩
        go_simp
      simp only [Act.put]
      refine wpAnyH_take (i := 3) (v := .pointer (some ⟨b, o + k * 2, none⟩)) rfl (by kernel_rfl) (by kernel_rfl) (by kernel_rfl) (fun _ _ _ h => h) (Or.inl ⟨by rfl, ?_⟩) SW ?_
      · rintro u ⟨q1, q2⟩
        go_simp
      simp only [Act.put]
      refine wpAnyH_take (i := 4) (v := .pointer (some ⟨b, o + k * 2, none⟩)) rfl (by kernel_rfl) (by kernel_rfl) (by kernel_rfl) (fun _ _ _ h => h) (Or.inl ⟨by rfl, ?_⟩) SW ?_
      · rintro u ⟨q1, q2⟩
        go_simp
      simp only [Act.put]
      refine wpAnyH_take (i := 5) (v := .int .i64 l[k].1) rfl (by kernel_rfl) (by kernel_rfl) (by kernel_rfl) (fun _ _ _ h => h) (Or.inl ⟨by rfl, ?_⟩) SW ?_
      · rintro u ⟨q1, q2⟩
        go_simp
      simp only [Act.put]
      refine wpAnyH_take (i := 6) (v := .slice (some ⟨b, o, none⟩) l.length cap) rfl (by kernel_rfl) (by kernel_rfl) (by kernel_rfl) (fun _ _ _ h => h) (Or.inl ⟨by rfl, ?_⟩) SW ?_
      · rintro u ⟨q1, q2⟩
        go_simp
      simp only [Act.put]
      refine wpAnyH_take (i := 7) (v := .int .i64 k) rfl (by kernel_rfl) (by kernel_rfl) (by kernel_rfl) (fun _ _ _ h => h) (Or.inl ⟨by rfl, ?_⟩) SW ?_
      · rintro u ⟨q1, q2⟩
        go_simp
      simp only [Act.put]
      refine wpAnyH_take (i := 8) (v := .pointer (some ⟨b, o + k * 2, none⟩)) rfl (by kernel_rfl) (by kernel_rfl) (by kernel_rfl) (fun _ _ _ h => h) (Or.inl ⟨by rfl, ?_⟩) SW ?_
      · rintro u ⟨q1, q2⟩
        go_simp
      simp only [Act.put]
      refine wpAnyH_take (i := 9) (v := .pointer (some ⟨b, o + k * 2 + 1, none⟩)) rfl (by kernel_rfl) (by kernel_rfl) (by kernel_rfl) (fun _ _ _ h => h) (Or.inl ⟨by rfl, ?_⟩) SW ?_
      · rintro u ⟨q1, q2⟩
        go_simp
      simp only [Act.put]
      refine wpAnyH_take (i := 10) (v := .slice sa l[k].2.length sc) rfl (by kernel_rfl) (by kernel_rfl) (by kernel_rfl) (fun _ _ _ h => h) (Or.inl ⟨by rfl, ?_⟩) SW ?_
      · rintro u ⟨q1, q2⟩
        go_simp
      simp only [Act.put]
      refine wpAnyH_ready (rs := [11]) (by kernel_rfl) (by simp) ?_
      refine AllReadyH.cons rfl (fun K hK => ?_) AllReadyH.nil
      rw [if_pos (by rfl)]
      go_simp
      have hbd : Below wr.heap.size wr wr.drew := (Below.refl _ _).drew
      refine (l2Marks_any sa sc l[k].2 _ (hrow.below hbd) hlk).mono ?_
      rintro e w2 ⟨⟨gm, cm, rfl, hgm, hcm, ho⟩, b2⟩
      have b2' : Below wr.heap.size wr w2 := hbd.trans (b2.mono hbd.size)
      have hgm' : wr.heap.size ≤ gm := hgm
      have S2 : w2.cell? ⟨b, o + k * 2, none⟩ = some (.int .i64 l[k].1) ∧ w2.cell? ⟨b, o + k * 2 + 1, none⟩ = some (.slice sa l[k].2.length sc) := ⟨cell_on b2' hblt c0, cell_on b2' hblt c1⟩
      refine hK.out _ _ S2 (fun _ => ?_)
      clear hK K b2 SW hbd
      refine wpAnyH_take (i := 12) (v := .agg #[.int .i64 l[k].1, .slice (some ⟨gm, 0, none⟩) l[k].2.length cm]) rfl (by kernel_rfl) (by kernel_rfl) (by kernel_rfl) (fun _ _ _ h => h) (Or.inl ⟨by rfl, ?_⟩) S2 ?_
      · rintro u ⟨q1, q2⟩
        go_simp
      simp only [Act.put, List.setIfInBounds_toArray]
      refine wpAnyH_ready (rs := [13]) (by kernel_rfl) (by simp) ?_
      refine AllReadyH.cons rfl (fun K hK => ?_) AllReadyH.nil
      rw [if_pos (by rfl)]
      go_simp
      have b3 : Below wr.heap.size wr (w2.alloc (.cells #[.int .i64 l[k].1, .slice (some ⟨gm, 0, none⟩) l[k].2.length cm] 40)) := b2'.alloc b2'.size _
      have S3 : (w2.alloc (.cells #[.int .i64 l[k].1, .slice (some ⟨gm, 0, none⟩) l[k].2.length cm] 40)).cell? ⟨b, o + k * 2, none⟩ = some (.int .i64 l[k].1) ∧ (w2.alloc (.cells #[.int .i64 l[k].1, .slice (some ⟨gm, 0, none⟩) l[k].2.length cm] 40)).cell? ⟨b, o + k * 2 + 1, none⟩ = some (.slice sa l[k].2.length sc) := ⟨cell_on b3 hblt c0, cell_on b3 hblt c1⟩
      have hbx : Below w2.heap.size w2 (w2.alloc (.cells #[.int .i64 l[k].1, .slice (some ⟨gm, 0, none⟩) l[k].2.length cm] 40)) := (Below.refl _ _).alloc (Nat.le_refl _) _
      refine hK.out _ _ S3 (fun _ => ?_)
      clear hK K
      refine wpAnyH_ready (rs := [14]) (by kernel_rfl) (by simp) ?_
      refine AllReadyH.cons rfl (fun K hK => ?_) AllReadyH.nil
      rw [if_pos (by rfl)]
      refine wp_append_item _ _ rfl wr w.heap.size _ (l.take k) rfl hg b3 hzr w2.heap.size l[k].1 l[k].2 gm cm rfl (box0 _ _ _ _) (box1 _ _ _ _) (ho.below hbx) hgm' hcm htl ?_
      intro v' w4 hg4 b4
      have B4 : Below w.heap.size w w4 := (hb.trans (b3.mono hzr)).trans b4
      have S4 : w4.cell? ⟨b, o + k * 2, none⟩ = some (.int .i64 l[k].1) ∧ w4.cell? ⟨b, o + k * 2 + 1, none⟩ = some (.slice sa l[k].2.length sc) := ⟨cell_on B4 hbw cw0, cell_on B4 hbw cw1⟩
      refine hK.out _ _ S4 (fun _ => ?_)
      clear hK K
      refine wpAnyH_ready (rs := [15]) (by kernel_rfl) (by simp) ?_
      refine AllReadyH.cons rfl (fun K hK => ?_) AllReadyH.nil
      rw [if_pos (by rfl)]
      go_simp
      refine hK.out _ _ S4 (fun _ => ?_)
      clear hK K
      refine wpAnyH_done (by kernel_rfl) ?_ _
      go_wp2_with fail
      exact ⟨⟨k + 1, by omega, by go_num, by rw [HT.out]; exact hg4, B4⟩, by simp [intOf]; omega⟩
    · go_wp2_with fail
      go_ret
      rw [List.take_of_length_le (by omega)] at hg
      exact ⟨⟨_, rfl, hg⟩, hb⟩

end Go.Proofs.YtpfhegengmlkmaaGreat
