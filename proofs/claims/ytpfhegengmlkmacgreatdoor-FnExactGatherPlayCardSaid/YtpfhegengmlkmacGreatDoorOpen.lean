/- A slice of marks that came in, read: the list of its marks, where they lie, and that they fit. -/
import Derived.Test.YtpfhegengmlkmacGreatDoorBase
import Derived.Test.YtpfhegengmlkmacGreatDoorRows
import Derived.ProofKit
import Derived.OpenShut
import Derived.ShutString
import Derived.ChangeOld
import Derived.Deep.SlicePairs
namespace Go.Proofs.YtpfhegengmlkmacGreatDoor
open Go.ChangeShapes Go.WideShapes Go.ChangeAt Go.RowKit Go.Deep

theorem Tryz.cells133 : Tryz.prog.cellsOf 133 = 2 := by kernel_rfl
theorem Tryz.cells9 : Tryz.prog.cellsOf 9 = 1 := by kernel_rfl
theorem Tryz.cells3 : Tryz.prog.cellsOf 3 = 1 := by kernel_rfl
theorem Tryz.own : ownKnob Tryz.prog.godebug = none := by kernel_rfl
theorem Tryz.laidOut : laidOutB Tryz.prog = true := by kernel_rfl

/-- All that is known of a slice of marks that came in. -/
structure Came (W : World) (a : Option Addr) (len : Nat) (l : List (ByteArray × Int)) : Prop where
  len : len = l.length
  row : Row W a l
  max : l.length ≤ maxLen
  size : ∀ j, (h : j < l.length) → l[j].1.size ≤ maxLen
  ver : ∀ j, (h : j < l.length) → -9223372036854775808 ≤ l[j].2 ∧ l[j].2 ≤ 9223372036854775807

theorem open_marks {H : Type} {enc : TypeId × Value → H} {W : World} {a : Option Addr} {len cap : Nat} {d : DataW H} {ps : List MemPlace}
    (h : DataW.Trod enc Tryz.prog W 0 (fun _ => true) true 24 (.slice a len cap) d ps) : ∃ l, Came W a len l := by
  obtain ⟨fuel, hf⟩ := h
  rcases open_slice_pairs Tryz.underlying24 Tryz.underlying133 Tryz.cells133 rfl rfl Tryz.cells9 Tryz.cells3 hf with ⟨hcs, _⟩ | ⟨x, n, c, m, k, V0, V1, D0, D1, P0, P1, hcs, _, hl, hm, hmm, _, hall⟩
  · simp [Value.cells] at hcs
    obtain ⟨rfl, rfl, rfl⟩ := hcs
    exact ⟨[], rfl, fun k h => absurd h (Nat.not_lt_zero k), by simp, fun j h => absurd h (Nat.not_lt_zero j), fun j h => absurd h (Nat.not_lt_zero j)⟩
  · simp [Value.cells] at hcs
    obtain ⟨rfl, rfl, rfl⟩ := hcs
    simp only [if_true] at hmm
    subst hmm
    have each : ∀ i, i < len → ∃ q : ByteArray × Int, W.cell? (x.add (i * 2)) = some (.string q.1) ∧ W.cell? (x.add (i * 2 + 1)) = some (.int .i64 q.2) ∧ q.1.size ≤ maxLen ∧ (Lit.int .i64 q.2).wf = true := by
      intro i hi
      obtain ⟨e0, e1, t0, t1⟩ := hall i (by omega)
      obtain ⟨s, f0, _, hs⟩ := DataW.trod_string Tryz.underlying9 t0
      obtain ⟨v, f1, _, hv⟩ := DataW.trod_int Tryz.underlying3 t1
      simp only [List.cons.injEq, and_true] at f0 f1
      exact ⟨(s, v), by rw [e0, f0], by rw [e1, f1], hs, hv⟩
    obtain ⟨q, hq⟩ := choose_lt each
    refine ⟨(List.range len).map q, by simp, fun k hk => ?_, ?_, fun j hj => ?_, fun j hj => ?_⟩
    · simp only [List.length_map, List.length_range] at hk
      obtain ⟨e0, e1, _, _⟩ := hq k hk
      obtain ⟨b, o, spot⟩ := x
      have hspot : spot = none := by simpa [Addr.add] using World.cell?_spot (hq 0 (by omega)).1
      subst hspot
      rw [add_plain] at e0 e1
      refine ⟨b, o, rfl, block_lt_of_cell e0, by simpa using e0, by simpa [Nat.add_assoc] using e1⟩
    · simp; omega
    · simp only [List.length_map, List.length_range] at hj
      simpa using (hq j hj).2.2.1
    · simp only [List.length_map, List.length_range] at hj
      have := (hq j hj).2.2.2
      simp [Lit.wf, IntKind.min, IntKind.max, IntKind.signed, IntKind.bits] at this
      simpa using this

end Go.Proofs.YtpfhegengmlkmacGreatDoor
