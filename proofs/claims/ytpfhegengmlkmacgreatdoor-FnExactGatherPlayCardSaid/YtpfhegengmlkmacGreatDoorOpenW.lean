/- Slices of windows and of numbers that came in, read. -/
import Derived.Test.YtpfhegengmlkmacGreatDoorOpenI
import Derived.Test.YtpfhegengmlkmacGreatDoorChS
import Derived.Deep.Slices
namespace Go.Proofs.YtpfhegengmlkmacGreatDoor
open Go.ChangeShapes Go.WideShapes Go.ChangeAt Go.RowKit Go.Deep

theorem Tryz.cells130 : Tryz.prog.cellsOf 130 = 1 := by kernel_rfl

theorem open_winsC {H : Type} {enc : TypeId × Value → H} {W : World} {fuel : Nat} {cs : List Value} {y : DataW H × List MemPlace}
    (hf : DataW.trod enc Tryz.prog W 0 (fun _ => true) true fuel 23 cs = some y) : ∃ (a : Option Addr) (ws : List (List ItemL)) (c : Nat), cs = [.slice a ws.length c] ∧ ws.length ≤ c ∧ RowW W a ws ∧ FitW ws := by
  rcases open_slice1 Tryz.underlying23 Tryz.cells130 hf with ⟨hcs, _⟩ | ⟨x, n, c, m, k, V, D, Pl, hcs, _, hl, hm, hmm, _, hall⟩
  · exact ⟨none, [], 0, hcs, Nat.le_refl _, fun k h => absurd h (Nat.not_lt_zero k), by simp, fun j h => absurd h (Nat.not_lt_zero j)⟩
  · simp only [if_true] at hmm
    subst hmm
    have each : ∀ i, i < n → ∃ q : List ItemL, (∃ s c', W.cell? (x.add i) = some (.slice s q.length c') ∧ q.length ≤ c' ∧ RowI W s q) ∧ FitI q := by
      intro i hi
      obtain ⟨e0, t0⟩ := hall i (by omega)
      obtain ⟨s, l, c', f0, hc, hrow, hfit⟩ := open_itemsC t0
      simp only [List.cons.injEq, and_true] at f0
      exact ⟨l, ⟨s, c', by rw [e0, f0], hc, hrow⟩, hfit⟩
    obtain ⟨q, hq⟩ := choose_lt each
    have hlen : ((List.range n).map q).length = n := by simp
    refine ⟨some x, (List.range n).map q, m, by rw [hlen]; exact hcs, by rw [hlen]; exact hl, fun k hk => ?_, ?_, fun j hj => ?_⟩
    · simp only [List.length_map, List.length_range] at hk
      obtain ⟨⟨s, c', e0, hc, hrow⟩, _⟩ := hq k hk
      obtain ⟨⟨_, _, e00, _⟩, _⟩ := hq 0 (by omega)
      obtain ⟨b, o, spot⟩ := x
      have hspot : spot = none := by simpa [Addr.add] using World.cell?_spot e00
      subst hspot
      rw [add_plain] at e0
      exact ⟨b, o, rfl, block_lt_of_cell e0, s, c', by simpa using e0, by simpa using hc, by simpa using hrow⟩
    · rw [hlen]; omega
    · simp only [List.length_map, List.length_range] at hj
      simpa using (hq j hj).2

theorem open_intsC {H : Type} {enc : TypeId × Value → H} {W : World} {fuel : Nat} {cs : List Value} {y : DataW H × List MemPlace}
    (hf : DataW.trod enc Tryz.prog W 0 (fun _ => true) true fuel 37 cs = some y) : ∃ (a : Option Addr) (ps : List Int) (c : Nat), cs = [.slice a ps.length c] ∧ ps.length ≤ c ∧ RowZ W a ps ∧ ps.length ≤ maxLen := by
  rcases open_slice1 Tryz.underlying37 Tryz.cells3 hf with ⟨hcs, _⟩ | ⟨x, n, c, m, k, V, D, Pl, hcs, _, hl, hm, hmm, _, hall⟩
  · exact ⟨none, [], 0, hcs, Nat.le_refl _, fun k h => absurd h (Nat.not_lt_zero k), by simp⟩
  · simp only [if_true] at hmm
    subst hmm
    have each : ∀ i, i < n → ∃ q : Int, W.cell? (x.add i) = some (.int .i64 q) := by
      intro i hi
      obtain ⟨e0, t0⟩ := hall i (by omega)
      obtain ⟨v, f0, _, _⟩ := DataW.trod_int Tryz.underlying3 t0
      simp only [List.cons.injEq, and_true] at f0
      exact ⟨v, by rw [e0, f0]⟩
    obtain ⟨q, hq⟩ := choose_lt each
    have hlen : ((List.range n).map q).length = n := by simp
    refine ⟨some x, (List.range n).map q, m, by rw [hlen]; exact hcs, by rw [hlen]; exact hl, fun k hk => ?_, by rw [hlen]; omega⟩
    simp only [List.length_map, List.length_range] at hk
    have e0 := hq k hk
    have e00 := hq 0 (by omega)
    obtain ⟨b, o, spot⟩ := x
    have hspot : spot = none := by simpa [Addr.add] using World.cell?_spot e00
    subst hspot
    rw [add_plain] at e0
    exact ⟨b, o, rfl, block_lt_of_cell e0, by simpa using e0⟩

end Go.Proofs.YtpfhegengmlkmacGreatDoor
