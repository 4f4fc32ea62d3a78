/- Windows in blocks of the call's own. Walk: toItemSS. -/
import Derived.Test.YtpfhegengmlkmacGreatDoorItG
namespace Go.Proofs.YtpfhegengmlkmacGreatDoor
open Go.RowKit Go.BigFrame

theorem PartI.setBelow {w : World} {lo T g k q : Nat} {l : List ItemL} (h : PartI w lo T g l k) (hq : q < lo) (hg : q < g) (i : Nat) (v : Value) : PartI (w.setCell ⟨q, i, none⟩ v) lo T g l k := by
  obtain ⟨G, C, m, f, h, hm, hf, hd⟩ := h
  refine ⟨G, C, m, f, h.of_block (Below.heap_setCell _ _ _ _ (by simp only; omega)), hm, fun j hj hk => ?_, hd⟩
  obtain ⟨h1, h2, h3, h4, h5, h6, h7⟩ := hf j hj hk
  exact ⟨h1, h2, h3, h4.setOther (by omega) _ _, h5, h6, h7⟩
/-- The first 'k' windows of 'ws' lie in block 'g', which has room for all; each window's items lie in blocks of their own, from 'lo' on, one window behind the other, ahead of 'T'. -/
def PartW (w : World) (lo T g : Nat) (ws : List (List ItemL)) (k : Nat) : Prop :=
  ∃ (L U G : Nat → Nat) (f : Nat → Value), w.rowIs g 78 ws.length f ∧
    (∀ j, (h : j < ws.length) → j < k → f j = .slice (some ⟨G j, 0, none⟩) ws[j].length ws[j].length ∧ PartI w (L j) (U j) (G j) ws[j] ws[j].length ∧ lo ≤ L j ∧ L j ≤ G j ∧ G j < U j ∧ U j ≤ T) ∧ ∀ i j, i < j → j < k → U i ≤ L j
theorem PartW.lt {w : World} {lo T g k : Nat} {ws : List (List ItemL)} (h : PartW w lo T g ws k) : g < w.heap.size := by
  obtain ⟨_, _, _, _, h, _⟩ := h
  exact h.lt
theorem PartW.below {w w' : World} {lo T g k : Nat} {ws : List (List ItemL)} (h : PartW w lo T g ws k) (hb : Below w.heap.size w w') : PartW w' lo T g ws k := by
  have hlt := h.lt
  obtain ⟨L, U, G, f, h, hf, hd⟩ := h
  refine ⟨L, U, G, f, h.of_block (hb.block g hlt), fun j hj hk => ?_, hd⟩
  obtain ⟨h1, h2, h3⟩ := hf j hj hk
  exact ⟨h1, h2.below hb, h3⟩
theorem PartW.grow {w : World} {lo T T' g k : Nat} {ws : List (List ItemL)} (h : PartW w lo T g ws k) (hT : T ≤ T') : PartW w lo T' g ws k := by
  obtain ⟨L, U, G, f, h, hf, hd⟩ := h
  refine ⟨L, U, G, f, h, fun j hj hk => ?_, hd⟩
  obtain ⟨h1, h2, h3, h4, h5, h6⟩ := hf j hj hk
  exact ⟨h1, h2, h3, h4, h5, by omega⟩
theorem PartW.made (w : World) (lo : Nat) (ws : List (List ItemL)) (z : Value) : PartW (w.alloc (.cells (madeCells #[z] ws.length) 78)) lo (w.heap.size + 1) w.heap.size ws 0 := by
  refine ⟨fun _ => 0, fun _ => 0, fun _ => 0, fun i => #[z][i % 1]!, ?_, fun j _ h => by omega, fun i j _ h => by omega⟩
  have h := World.rowIs_alloc w (madeCells #[z] ws.length) 78 (fun i => #[z][i % 1]!) (fun i hi => by
    rw [size_madeCells] at hi
    simp [madeCells, hi])
  rwa [size_madeCells] at h
theorem PartW.cell {w : World} {lo T g k : Nat} {ws : List (List ItemL)} (h : PartW w lo T g ws k) {i : Nat} (hi : i < ws.length) : ∃ v, w.cell? ⟨g, i, none⟩ = some v := by
  obtain ⟨_, _, _, f, h, _⟩ := h
  exact ⟨_, h.cell hi⟩
theorem PartW.frozen {w : World} {lo T g k : Nat} {ws : List (List ItemL)} (h : PartW w lo T g ws k) (i : Nat) : w.frozen? ⟨g, i, none⟩ = false := by
  obtain ⟨_, _, _, f, h, _⟩ := h
  exact h.frozen i
theorem PartW.step {w : World} {lo T g k b U' : Nat} {ws : List (List ItemL)} (h : PartW w lo T g ws k) (hk : k < ws.length) (hgl : g < lo) (hT : T ≤ b) (hlo : lo ≤ b) (hU : b < U') (hp : PartI w b U' b ws[k] ws[k].length) :
    PartW (w.setCell ⟨g, k, none⟩ (.slice (some ⟨b, 0, none⟩) ws[k].length ws[k].length)) lo U' g ws (k + 1) := by
  obtain ⟨L, U, G, f, h, hf, hd⟩ := h
  refine ⟨fun j => if j = k then b else L j, fun j => if j = k then U' else U j, fun j => if j = k then b else G j, _, h.set _ _, fun j hj hlt => ?_, fun i j hij hj => ?_⟩
  · by_cases e : j = k
    · subst e
      simp only [if_true]
      exact ⟨by simp, hp.setBelow (by omega) (by omega) _ _, hlo, Nat.le_refl _, hU, Nat.le_refl _⟩
    · obtain ⟨h1, h2, h3, h4, h5, h6⟩ := hf j hj (by omega)
      simp only [if_neg e]
      exact ⟨h1, h2.setBelow (by omega) (by omega) _ _, h3, h4, h5, by omega⟩
  · by_cases e' : j = k
    · subst e'
      have := (hf i (by omega) hij).2.2.2.2.2
      simp only [if_true, if_neg (by omega : ¬ i = j)]
      omega
    · simp only [if_neg e', if_neg (by omega : ¬ i = k)]
      exact hd i j hij (by omega)
theorem PartW.row {w : World} {lo T g : Nat} {ws : List (List ItemL)} (h : PartW w lo T g ws ws.length) : RowW w (some ⟨g, 0, none⟩) ws := fun k hk => by
  obtain ⟨L, U, G, f, h, hf, _⟩ := h
  obtain ⟨h1, h2, _⟩ := hf k hk hk
  exact ⟨g, 0, rfl, h.lt, _, _, by rw [Nat.zero_add, h.cell hk, h1], Nat.le_refl _, h2.row⟩
theorem Tryz.infoW : (Tryz.prog.info? 78).map (fun i => (i.zero, i.size, i.bytes)) = some (some (.slice none 0 0), 1, 24) := by kernel_rfl

set_option maxHeartbeats 800000 in
theorem toItemSS_any (a : Option Addr) (cap : Nat) (ws : List (List ItemL)) (w : World) (hl : ws.length ≤ 1048576) (hs : ∀ j, (h : j < ws.length) → ws[j].length ≤ 1048576 ∧ ∀ i, (h' : i < ws[j].length) → ws[j][i].2.length ≤ 1048576) (hr : RowW w a ws) :
    Calls Tryz.prog 48 #[.slice a ws.length cap] w fun e w' => e = .returned (.slice (some ⟨w.heap.size, 0, none⟩) ws.length ws.length) ∧ PartW w' (w.heap.size + 1) w'.heap.size w.heap.size ws ws.length ∧ Below w.heap.size w w' := by
  obtain ⟨i0, hi, hz0, hz1, hz2⟩ := info_parts Tryz.infoW
  have hmk : ∀ u : World, (Instr.makeSlice 33 (.int .i64 (ws.length : Int)) (.int .i64 (ws.length : Int))).run Tryz.prog u =
      .ok (.slice (some ⟨u.heap.size, 0, none⟩) ws.length ws.length) (u.alloc (.cells (madeCells #[.slice none 0 0] ws.length) 78)) := fun u => by
    have h := run_make (P := Tryz.prog) u 33 78 i0 (.slice none 0 0) Tryz.underlying33 hi hz0 .i64 .i64 (ws.length : Int) (ws.length : Int) (by omega) (Int.le_refl _) (by rw [hz2]; omega) (by omega)
    simpa [hz1, Value.cells] using h
  go_enter Tryz.func48, Tryz.ntmps48
  go_wp2_with fail
  go_loopw [4] (fun i wr => ∃ k : Nat, k ≤ ws.length ∧ i = .int .i64 k ∧ PartW wr (w.heap.size + 1) wr.heap.size w.heap.size ws k ∧ Below w.heap.size w wr) (fun i _ => ws.length - (intOf i).toNat)
  case atStart => exact ⟨0, Nat.zero_le _, rfl, (PartW.made w _ ws _).grow (by simp), (Below.refl _ _).alloc (Nat.le_refl _) _⟩
  case round =>
    obtain ⟨k, hk, rfl, hp, hb⟩ := hrel
    have hzr := hb.size
    have hpl := hp.lt
    by_cases hlt : k < ws.length
    · obtain ⟨b, o, rfl, hblt, s1, t1, c1, _, hrow⟩ := hr.below hb k hlt
      have k0 : (0 : Int) ≤ (k : Int) := by omega
      have k1 : (k : Int) < (ws.length : Int) := by omega
      have hsk := hs k hlt
      go_wp2_with fail
      refine (toItemS_any s1 t1 ws[k] _ hsk.1 hsk.2 hrow).mono ?_
      rintro e w1 ⟨rfl, hpi, b1⟩
      have hp1 := hp.below b1
      have hlt2 := hpi.lt
      obtain ⟨v0, hv0⟩ := hp1.cell (i := k) hlt
      have hf0 := hp1.frozen k
      have B1 : Below w.heap.size w w1 := hb.trans (b1.mono hzr)
      have hstep := hp1.step hlt (by omega) (Nat.le_refl _) (by omega) hlt2 hpi
      go_wp2_with fail
      exact ⟨⟨k + 1, by omega, by go_num, hstep.grow (by simp), B1.setCell (Nat.le_refl _) _⟩, by simp [intOf]; omega⟩
    · obtain rfl : k = ws.length := by omega
      go_wp2_with fail
      go_ret
      exact ⟨rfl, hp, hb⟩

end Go.Proofs.YtpfhegengmlkmacGreatDoor
