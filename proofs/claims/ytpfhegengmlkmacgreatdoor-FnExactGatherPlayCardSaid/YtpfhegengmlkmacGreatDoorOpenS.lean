/- A slice of texts that came in, read. -/
import Derived.Test.YtpfhegengmlkmacGreatDoorOpen
import Derived.Test.YtpfhegengmlkmacGreatDoorStrs
import Derived.Deep.Strs
namespace Go.Proofs.YtpfhegengmlkmacGreatDoor
open Go.ChangeShapes Go.WideShapes Go.ChangeAt Go.RowKit Go.Deep

theorem open_names {H : Type} {enc : TypeId × Value → H} {W : World} {a : Option Addr} {len cap : Nat} {d : DataW H} {ps : List MemPlace}
    (h : DataW.Trod enc Tryz.prog W 0 (fun _ => true) true 22 (.slice a len cap) d ps) : ∃ l : List ByteArray, len = l.length ∧ RowS W a l ∧ l.length ≤ maxLen ∧ ∀ j, (h : j < l.length) → l[j].size ≤ maxLen := by
  obtain ⟨fuel, hf⟩ := h
  rcases open_strs Tryz.underlying22 Tryz.underlying9 Tryz.cells9 hf with ⟨hcs, _⟩ | ⟨x, n, c, m, S, hcs, _, hl, hm, hmm, _, hall⟩
  · simp [Value.cells] at hcs
    obtain ⟨rfl, rfl, rfl⟩ := hcs
    exact ⟨[], rfl, fun k h => absurd h (Nat.not_lt_zero k), by simp, fun j h => absurd h (Nat.not_lt_zero j)⟩
  · simp [Value.cells] at hcs
    obtain ⟨rfl, rfl, rfl⟩ := hcs
    simp only [if_true] at hmm
    subst hmm
    refine ⟨(List.range len).map S, by simp, fun k hk => ?_, by simp; omega, fun j hj => ?_⟩
    · simp only [List.length_map, List.length_range] at hk
      have e0 := (hall k (by omega)).1
      obtain ⟨b, o, spot⟩ := x
      have hspot : spot = none := by simpa [Addr.add] using World.cell?_spot (hall 0 (by omega)).1
      subst hspot
      rw [add_plain] at e0
      exact ⟨b, o, rfl, block_lt_of_cell e0, by simpa using e0⟩
    · simp only [List.length_map, List.length_range] at hj
      simpa using (hall j (by omega)).2

end Go.Proofs.YtpfhegengmlkmacGreatDoor
