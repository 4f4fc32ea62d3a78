/- A gather that came in by value, read. -/
import Derived.Test.YtpfhegengmlkmacGreatDoorOpenW
import Derived.Test.YtpfhegengmlkmacGreatDoorOpenS
import Derived.Test.YtpfhegengmlkmacGreatDoorGaL
import Derived.Lib.SmallJoins
namespace Go.Proofs.YtpfhegengmlkmacGreatDoor
open Go.ChangeShapes Go.WideShapes Go.ChangeAt Go.RowKit Go.Deep
set_option maxRecDepth 100000

theorem Tryz.cells26 : Tryz.prog.cellsOf 26 = 3 := by kernel_rfl

theorem open_namesC {H : Type} {enc : TypeId × Value → H} {W : World} {fuel : Nat} {cs : List Value} {y : DataW H × List MemPlace}
    (hf : DataW.trod enc Tryz.prog W 0 (fun _ => true) true fuel 22 cs = some y) : ∃ (a : Option Addr) (l : List ByteArray) (c : Nat), cs = [.slice a l.length c] ∧ RowS W a l ∧ FitS l := by
  rcases open_strs Tryz.underlying22 Tryz.underlying9 Tryz.cells9 hf with ⟨hcs, _⟩ | ⟨x, n, c, m, S, hcs, _, hl, hm, hmm, _, hall⟩
  · exact ⟨none, [], 0, hcs, fun k h => absurd h (Nat.not_lt_zero k), by simp, fun j h => absurd h (Nat.not_lt_zero j)⟩
  · simp only [if_true] at hmm
    subst hmm
    have hlen : ((List.range n).map S).length = n := by simp
    refine ⟨some x, (List.range n).map S, m, by rw [hlen]; exact hcs, fun k hk => ?_, by rw [hlen]; omega, fun j hj => ?_⟩
    · simp only [List.length_map, List.length_range] at hk
      have e0 := (hall k (by omega)).1
      obtain ⟨b, o, spot⟩ := x
      have hspot : spot = none := by simpa [Addr.add] using World.cell?_spot (hall 0 (by omega)).1
      subst hspot
      rw [add_plain] at e0
      exact ⟨b, o, rfl, block_lt_of_cell e0, by simpa using e0⟩
    · simp only [List.length_map, List.length_range] at hj
      simpa using (hall j (by omega)).2

theorem open_gatherC {H : Type} {enc : TypeId × Value → H} {W : World} {r : Reach} {b0 : Nat} {v : Value} {d : DataW H} {p : List MemPlace}
    (hv : Value.okWide Tryz.prog W r b0 26 v) (h : DataW.Trod enc Tryz.prog W 0 (fun _ => true) true 26 v d p) :
    ∃ (g : GatL) (a0 a1 a2 : Option Addr) (c0 c1 c2 : Nat), v = .agg #[.slice a0 g.ins.length c0, .slice a1 g.wins.length c1, .slice a2 g.shown.length c2] ∧ RowS W a0 g.ins ∧ RowW W a1 g.wins ∧ Row W a2 g.shown ∧ FitG g := by
  obtain ⟨v0, v1, v2, y0, y1, y2, n, rfl, _, _, t0, t1, t2⟩ := Joins.open_agg3 Tryz.underlying26 (by kernel_rfl) Tryz.cells26 hv h
  obtain ⟨a0, ins, c0, f0, hR0, hF0⟩ := open_namesC t0
  obtain ⟨a1, ws, c1, f1, hc1, hR1, hF1⟩ := open_winsC t1
  obtain ⟨a2, ms, c2, f2, hc2, hcame⟩ := open_marksC t2
  simp only [List.cons.injEq, and_true] at f0 f1 f2
  subst f0 f1 f2
  exact ⟨⟨ins, ws, ms⟩, a0, a1, a2, c0, c1, c2, rfl, hR0, hR1, hcame.row, hF0, hF1, hcame.max, hcame.size⟩

end Go.Proofs.YtpfhegengmlkmacGreatDoor
