/- A slice of bytes that came in, read. -/
import Derived.Test.YtpfhegengmlkmaaDoorDraw4
import Derived.Test.YtpfhegengmlkmaaDoorRows
import Derived.ProofKit
import Derived.OpenShut
import Derived.ChangeOld
import Derived.ChangeSlices
namespace Go.Proofs.YtpfhegengmlkmaaDoor
open Go.ChangeShapes Go.WideShapes Go.ChangeAt Go.RowKit

theorem Tryd.cells5 : Tryd.prog.cellsOf 5 = 1 := by kernel_rfl
theorem Tryd.own : ownKnob Tryd.prog.godebug = none := by kernel_rfl
theorem Tryd.laidOut : laidOutB Tryd.prog = true := by kernel_rfl

theorem open_bytes {H : Type} {enc : TypeId × Value → H} {W : World} {a : Option Addr} {len cap : Nat} {d : DataW H} {ps : List MemPlace}
    (h : DataW.Trod enc Tryd.prog W 0 (fun _ => true) true 22 (.slice a len cap) d ps) : Bytes W a len cap ∧ len ≤ maxLen := by
  obtain ⟨fuel, hf⟩ := h
  rcases open_ints Tryd.underlying22 Tryd.underlying5 Tryd.cells5 hf with ⟨hcs, _⟩ | hh
  · simp [Value.cells] at hcs
    obtain ⟨rfl, rfl, rfl⟩ := hcs
    exact ⟨⟨Nat.le_refl _, fun k h => absurd h (Nat.not_lt_zero k)⟩, Nat.zero_le _⟩
  · obtain ⟨x, n, c, zs, hcs, _, hl, hm, hz, _, hcell, hwf⟩ := hh
    simp [Value.cells] at hcs
    obtain ⟨rfl, rfl, rfl⟩ := hcs
    simp only [if_true] at hz
    refine ⟨⟨hl, fun k hk => ?_⟩, Nat.le_trans hl hm⟩
    have e0 := hcell k (by omega)
    obtain ⟨b, o, spot⟩ := x
    have hspot : spot = none := by simpa [Addr.add] using World.cell?_spot (hcell 0 (by omega))
    subst hspot
    rw [add_plain] at e0
    have hw := hwf (zs.getD k 0) (by
      have hkz : k < zs.length := by omega
      simp only [List.getD_eq_getElem?_getD, List.getElem?_eq_getElem hkz, Option.getD_some]
      exact List.getElem_mem hkz)
    simp [Lit.wf, IntKind.min, IntKind.max, IntKind.signed, IntKind.bits] at hw
    exact ⟨b, o, zs.getD k 0, rfl, block_lt_of_cell e0, by simpa using hw.1, by simpa using hw.2, e0⟩

end Go.Proofs.YtpfhegengmlkmaaDoor
