/- Items in blocks of the call's own. Walk: toItemS. -/
import Derived.Test.YtpfhegengmlkmacGreatDoorItC
namespace Go.Proofs.YtpfhegengmlkmacGreatDoor
open Go.RowKit

/-- The first 'k' items of 'l' lie in block 'g', which has room for all; their marks lie each in a block of its own, from 'lo' on and ahead of 'T'. -/
def PartI (w : World) (lo T g : Nat) (l : List ItemL) (k : Nat) : Prop :=
  ∃ (G C : Nat → Nat) (m : Nat) (f : Nat → Value), w.rowIs g 44 m f ∧ l.length * 2 ≤ m ∧
    (∀ j, (h : j < l.length) → j < k → f (j * 2) = .int .i64 l[j].1 ∧ f (j * 2 + 1) = .slice (some ⟨G j, 0, none⟩) l[j].2.length (C j) ∧ l[j].2.length ≤ C j ∧ Own w (G j) l[j].2 ∧ lo ≤ G j ∧ G j < T ∧ G j ≠ g) ∧ ∀ i j, i < k → j < k → i ≠ j → G i ≠ G j

theorem PartI.lt {w : World} {lo T g k : Nat} {l : List ItemL} (h : PartI w lo T g l k) : g < w.heap.size := by
  obtain ⟨_, _, _, _, h, _⟩ := h
  exact h.lt
theorem PartI.below {w w' : World} {lo T g k : Nat} {l : List ItemL} (h : PartI w lo T g l k) (hb : Below w.heap.size w w') : PartI w' lo T g l k := by
  have hlt := h.lt
  obtain ⟨G, C, m, f, h, hm, hf, hd⟩ := h
  refine ⟨G, C, m, f, h.of_block (hb.block g hlt), hm, fun j hj hk => ?_, hd⟩
  obtain ⟨h1, h2, h3, h4, h5⟩ := hf j hj hk
  exact ⟨h1, h2, h3, h4.below hb, h5⟩
theorem PartI.grow {w : World} {lo T T' g k : Nat} {l : List ItemL} (h : PartI w lo T g l k) (hT : T ≤ T') : PartI w lo T' g l k := by
  obtain ⟨G, C, m, f, h, hm, hf, hd⟩ := h
  refine ⟨G, C, m, f, h, hm, fun j hj hk => ?_, hd⟩
  obtain ⟨h1, h2, h3, h4, h5, h6, h7⟩ := hf j hj hk
  exact ⟨h1, h2, h3, h4, h5, by omega, h7⟩
theorem PartI.made (w : World) (lo : Nat) (l : List ItemL) (z : Array Value) : PartI (w.alloc (.cells (madeCells z (l.length * 2)) 44)) lo (w.heap.size + 1) w.heap.size l 0 := by
  refine ⟨fun _ => 0, fun _ => 0, l.length * 2, fun i => z[i % z.size]!, ?_, Nat.le_refl _, fun j _ h => by omega, fun i j h => by omega⟩
  have h := World.rowIs_alloc w (madeCells z (l.length * 2)) 44 (fun i => z[i % z.size]!) (fun i hi => by
    rw [size_madeCells] at hi
    simp [madeCells, hi])
  rwa [size_madeCells] at h
theorem PartI.cell {w : World} {lo T g k : Nat} {l : List ItemL} (h : PartI w lo T g l k) {i : Nat} (hi : i < l.length * 2) : ∃ v, w.cell? ⟨g, i, none⟩ = some v := by
  obtain ⟨_, _, m, f, h, hm, _⟩ := h
  exact ⟨_, h.cell (by omega)⟩
theorem PartI.frozen {w : World} {lo T g k : Nat} {l : List ItemL} (h : PartI w lo T g l k) (i : Nat) : w.frozen? ⟨g, i, none⟩ = false := by
  obtain ⟨_, _, m, f, h, _⟩ := h
  exact h.frozen i
theorem PartI.step {w : World} {lo T g k : Nat} {l : List ItemL} (h : PartI w lo T g l k) (hk : k < l.length) {b c : Nat} (hT : T ≤ b) (hlo : lo ≤ b) (hg : b ≠ g) (hc : l[k].2.length ≤ c) (ho : Own w b l[k].2) :
    PartI ((w.setCell ⟨g, k * 2, none⟩ (.int .i64 l[k].1)).setCell ⟨g, k * 2 + 1, none⟩ (.slice (some ⟨b, 0, none⟩) l[k].2.length c)) lo (b + 1) g l (k + 1) := by
  obtain ⟨G, C, m, f, h, hm, hf, hd⟩ := h
  refine ⟨fun j => if j = k then b else G j, fun j => if j = k then c else C j, m, _, (h.set _ _).set _ _, hm, fun j hj hlt => ?_, fun i j hi hj hne => ?_⟩
  · by_cases e : j = k
    · subst e
      simp only [if_true]
      refine ⟨by simp, by simp, hc, (ho.setOther hg _ _).setOther hg _ _, hlo, by omega, hg⟩
    · obtain ⟨h1, h2, h3, h4, h5, h6, h7⟩ := hf j hj (by omega)
      have e0 : j * 2 ≠ k * 2 + 1 := by omega
      have e1 : j * 2 ≠ k * 2 := by omega
      have e2 : j * 2 + 1 ≠ k * 2 + 1 := by omega
      have e3 : j * 2 + 1 ≠ k * 2 := by omega
      simp only [if_neg e, if_neg e0, if_neg e1, if_neg e2, if_neg e3]
      exact ⟨h1, h2, h3, (h4.setOther h7 _ _).setOther h7 _ _, h5, by omega, h7⟩
  · by_cases e : i = k
    · subst e
      have hj' : j < i := by omega
      have := (hf j (by omega) hj').2.2.2.2.2.1
      simp only [if_true, if_neg (by omega : ¬ j = i)]
      omega
    · by_cases e' : j = k
      · subst e'
        have hi' : i < j := by omega
        have := (hf i (by omega) hi').2.2.2.2.2.1
        simp only [if_true, if_neg e]
        omega
      · simp only [if_neg e, if_neg e']
        exact hd i j (by omega) (by omega) hne
theorem PartI.row {w : World} {lo T g : Nat} {l : List ItemL} (h : PartI w lo T g l l.length) : RowI w (some ⟨g, 0, none⟩) l := fun k hk => by
  obtain ⟨G, C, m, f, h, hm, hf, _⟩ := h
  obtain ⟨h1, h2, h3, h4, _⟩ := hf k hk hk
  refine ⟨g, 0, rfl, h.lt, by rw [Nat.zero_add, h.cell (by omega), h1], _, by rw [Nat.zero_add, h.cell (by omega), h2], _, _, rfl, h3, h4.row⟩
theorem Tryz.infoI : (Tryz.prog.info? 44).map (fun i => (i.zero, i.size, i.bytes)) = some (some (.agg #[.int .i64 0, .slice none 0 0]), 2, 32) := by kernel_rfl

set_option maxHeartbeats 800000 in
theorem toItemS_any (a : Option Addr) (cap : Nat) (l : List ItemL) (w : World) (hl : l.length ≤ 1048576) (hs : ∀ j, (h : j < l.length) → l[j].2.length ≤ 1048576) (hr : RowI w a l) :
    Calls Tryz.prog 87 #[.slice a l.length cap] w fun e w' => e = .returned (.slice (some ⟨w.heap.size, 0, none⟩) l.length l.length) ∧ PartI w' w.heap.size w'.heap.size w.heap.size l l.length ∧ Below w.heap.size w w' := by
  obtain ⟨i0, hi, hz0, hz1, hz2⟩ := info_parts Tryz.infoI
  have hmk : ∀ u : World, (Instr.makeSlice 78 (.int .i64 (l.length : Int)) (.int .i64 (l.length : Int))).run Tryz.prog u =
      .ok (.slice (some ⟨u.heap.size, 0, none⟩) l.length l.length) (u.alloc (.cells (madeCells #[.int .i64 0, .slice none 0 0] (l.length * 2)) 44)) := fun u => by
    have h := run_make (P := Tryz.prog) u 78 44 i0 (.agg #[.int .i64 0, .slice none 0 0]) Tryz.underlying78 hi hz0 .i64 .i64 (l.length : Int) (l.length : Int) (by omega) (Int.le_refl _) (by rw [hz2]; omega) (by omega)
    simpa [hz1, Value.cells] using h
  go_enter Tryz.func87, Tryz.ntmps87
  go_wp2_with fail
  go_loopw [4] (fun i wr => ∃ k : Nat, k ≤ l.length ∧ i = .int .i64 k ∧ PartI wr w.heap.size wr.heap.size w.heap.size l k ∧ Below w.heap.size w wr) (fun i _ => l.length - (intOf i).toNat)
  case atStart => exact ⟨0, Nat.zero_le _, rfl, (PartI.made w _ l _).grow (by simp), (Below.refl _ _).alloc (Nat.le_refl _) _⟩
  case round =>
    obtain ⟨k, hk, rfl, hp, hb⟩ := hrel
    have hzr := hb.size
    have hpl := hp.lt
    by_cases hlt : k < l.length
    · obtain ⟨b, o, rfl, hblt, c0, v, c1, hv⟩ := hr.below hb k hlt
      obtain ⟨sa, sc, rfl, hcap, hrow⟩ := hv
      have k0 : (0 : Int) ≤ (k : Int) := by omega
      have k1 : (k : Int) < (l.length : Int) := by omega
      have hsk := hs k hlt
      go_wp2_with fail
      refine (toItem_any l[k].1 sa sc l[k].2 _ hrow hsk).mono ?_
      rintro e w1 ⟨⟨b2, hb2, rfl, ho⟩, b1⟩
      have hp1 := hp.below b1
      obtain ⟨v0, hv0⟩ := hp1.cell (i := k * 2) (by omega)
      obtain ⟨v1, hv1⟩ := hp1.cell (i := k * 2 + 1) (by omega)
      have hf0 := hp1.frozen (k * 2)
      have hf1 := hp1.frozen (k * 2 + 1)
      have B1 : Below w.heap.size w w1 := hb.trans (b1.mono hzr)
      have hstep := hp1.step hlt hb2 (by omega) (by omega) (Nat.le_refl _) ho
      have hlt2 := ho.lt
      go_wp2_with fail
      exact ⟨⟨k + 1, by omega, by go_num, hstep.grow (by simp; omega), (B1.setCell (Nat.le_refl _) _).setCell (Nat.le_refl _) _⟩, by simp [intOf]; omega⟩
    · obtain rfl : k = l.length := by omega
      go_wp2_with fail
      go_ret
      exact ⟨rfl, hp, hb⟩

end Go.Proofs.YtpfhegengmlkmacGreatDoor
