/- An item that came in by value, read. -/
import Derived.Test.YtpfhegengmlkmabOpenI
import Derived.Lib.SmallJoins
namespace Go.Proofs.Ytpfhegengmlkmab
open Go.ChangeShapes Go.WideShapes Go.ChangeAt Go.RowKit Go.Deep
set_option maxRecDepth 100000

theorem open_itemC {H : Type} {enc : TypeId × Value → H} {W : World} {r : Reach} {b0 : Nat} {v : Value} {d : DataW H} {p : List MemPlace}
    (hv : Value.okWide Try.prog W r b0 52 v) (h : DataW.Trod enc Try.prog W 0 (fun _ => true) true 52 v d p) :
    ∃ (x : Int) (a : Option Addr) (l : List (ByteArray × Int)) (c : Nat), v = .agg #[.int .i64 x, .slice a l.length c] ∧ l.length ≤ c ∧ Row W a l ∧ FitM l := by
  obtain ⟨v0, v1, y0, y1, n, rfl, _, _, t0, t1⟩ := Joins.open_agg2 Try.underlying52 (by kernel_rfl) Try.cells52 hv h
  obtain ⟨x, f0, _, _⟩ := DataW.trod_int Try.underlying3 t0
  obtain ⟨a, l, c, f1, hc, hcame⟩ := open_marksC t1
  simp only [List.cons.injEq, and_true] at f0 f1
  subst f0 f1
  exact ⟨x, a, l, c, rfl, hc, hcame.row, hcame.max, hcame.size⟩

end Go.Proofs.Ytpfhegengmlkmab
