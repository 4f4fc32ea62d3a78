/- Slices of items that came in, read. -/
import Derived.Test.YtpfhegengmlkmacGreatDoorOpen
import Derived.Test.YtpfhegengmlkmacGreatDoorItB
namespace Go.Proofs.YtpfhegengmlkmacGreatDoor
open Go.ChangeShapes Go.WideShapes Go.ChangeAt Go.RowKit Go.Deep

theorem Tryz.cells28 : Tryz.prog.cellsOf 28 = 2 := by kernel_rfl
theorem Tryz.cells24 : Tryz.prog.cellsOf 24 = 1 := by kernel_rfl

theorem open_marksC {H : Type} {enc : TypeId × Value → H} {W : World} {fuel : Nat} {cs : List Value} {y : DataW H × List MemPlace}
    (hf : DataW.trod enc Tryz.prog W 0 (fun _ => true) true fuel 24 cs = some y) : ∃ (a : Option Addr) (l : List (ByteArray × Int)) (c : Nat), cs = [.slice a l.length c] ∧ l.length ≤ c ∧ Came W a l.length l := by
  rcases open_slice_pairs Tryz.underlying24 Tryz.underlying133 Tryz.cells133 rfl rfl Tryz.cells9 Tryz.cells3 hf with ⟨hcs, _⟩ | ⟨x, n, c, m, k, V0, V1, D0, D1, P0, P1, hcs, _, hl, hm, hmm, _, hall⟩
  · exact ⟨none, [], 0, hcs, Nat.le_refl _, rfl, fun k h => absurd h (Nat.not_lt_zero k), by simp, fun j h => absurd h (Nat.not_lt_zero j), fun j h => absurd h (Nat.not_lt_zero j)⟩
  · simp only [if_true] at hmm
    subst hmm
    have each : ∀ i, i < n → ∃ q : ByteArray × Int, W.cell? (x.add (i * 2)) = some (.string q.1) ∧ W.cell? (x.add (i * 2 + 1)) = some (.int .i64 q.2) ∧ q.1.size ≤ maxLen ∧ (Lit.int .i64 q.2).wf = true := by
      intro i hi
      obtain ⟨e0, e1, t0, t1⟩ := hall i (by omega)
      obtain ⟨s, f0, _, hs⟩ := DataW.trod_string Tryz.underlying9 t0
      obtain ⟨v, f1, _, hv⟩ := DataW.trod_int Tryz.underlying3 t1
      simp only [List.cons.injEq, and_true] at f0 f1
      exact ⟨(s, v), by rw [e0, f0], by rw [e1, f1], hs, hv⟩
    obtain ⟨q, hq⟩ := choose_lt each
    have hlen : ((List.range n).map q).length = n := by simp
    refine ⟨some x, (List.range n).map q, m, by rw [hlen]; exact hcs, by rw [hlen]; exact hl, rfl, fun k hk => ?_, ?_, fun j hj => ?_, fun j hj => ?_⟩
    · simp only [List.length_map, List.length_range] at hk
      obtain ⟨e0, e1, _, _⟩ := hq k hk
      obtain ⟨b, o, spot⟩ := x
      have hspot : spot = none := by simpa [Addr.add] using World.cell?_spot (hq 0 (by omega)).1
      subst hspot
      rw [add_plain] at e0 e1
      refine ⟨b, o, rfl, block_lt_of_cell e0, by simpa using e0, by simpa [Nat.add_assoc] using e1⟩
    · simp; omega
    · simp only [List.length_map, List.length_range] at hj
      simpa using (hq j hj).2.2.1
    · simp only [List.length_map, List.length_range] at hj
      have := (hq j hj).2.2.2
      simp [Lit.wf, IntKind.min, IntKind.max, IntKind.signed, IntKind.bits] at this
      simpa using this

theorem open_itemsC {H : Type} {enc : TypeId × Value → H} {W : World} {fuel : Nat} {cs : List Value} {y : DataW H × List MemPlace}
    (hf : DataW.trod enc Tryz.prog W 0 (fun _ => true) true fuel 130 cs = some y) : ∃ (a : Option Addr) (l : List ItemL) (c : Nat), cs = [.slice a l.length c] ∧ l.length ≤ c ∧ RowI W a l ∧ FitI l := by
  rcases open_slice_pairs Tryz.underlying130 Tryz.underlying28 Tryz.cells28 rfl rfl Tryz.cells3 Tryz.cells24 hf with ⟨hcs, _⟩ | ⟨x, n, c, m, k, V0, V1, D0, D1, P0, P1, hcs, _, hl, hm, hmm, _, hall⟩
  · exact ⟨none, [], 0, hcs, Nat.le_refl _, fun k h => absurd h (Nat.not_lt_zero k), by simp, fun j h => absurd h (Nat.not_lt_zero j)⟩
  · simp only [if_true] at hmm
    subst hmm
    have each : ∀ i, i < n → ∃ q : ItemL, W.cell? (x.add (i * 2)) = some (.int .i64 q.1) ∧ (∃ v, W.cell? (x.add (i * 2 + 1)) = some v ∧ IsSl W v q.2) ∧ FitM q.2 := by
      intro i hi
      obtain ⟨e0, e1, t0, t1⟩ := hall i (by omega)
      obtain ⟨z, f0, _, _⟩ := DataW.trod_int Tryz.underlying3 t0
      obtain ⟨a, l, c', f1, hc, hcame⟩ := open_marksC t1
      simp only [List.cons.injEq, and_true] at f0 f1
      exact ⟨(z, l), by rw [e0, f0], ⟨_, e1, a, c', f1, hc, hcame.row⟩, hcame.max, hcame.size⟩
    obtain ⟨q, hq⟩ := choose_lt each
    have hlen : ((List.range n).map q).length = n := by simp
    refine ⟨some x, (List.range n).map q, m, by rw [hlen]; exact hcs, by rw [hlen]; exact hl, fun k hk => ?_, ?_, fun j hj => ?_⟩
    · simp only [List.length_map, List.length_range] at hk
      obtain ⟨e0, ⟨v, e1, hv⟩, _⟩ := hq k hk
      obtain ⟨b, o, spot⟩ := x
      have hspot : spot = none := by simpa [Addr.add] using World.cell?_spot (hq 0 (by omega)).1
      subst hspot
      rw [add_plain] at e0 e1
      exact ⟨b, o, rfl, block_lt_of_cell e0, by simpa using e0, v, by simpa [Nat.add_assoc] using e1, by simpa using hv⟩
    · rw [hlen]; omega
    · simp only [List.length_map, List.length_range] at hj
      simpa using (hq j hj).2.2

end Go.Proofs.YtpfhegengmlkmacGreatDoor
