/- A region that draws its order and whose callees make new memory and turn none that was there: one walk of the order of the text serves every order. -/
import Derived.Test.YtpfhegengmlkmacGreatDoorBase
import Derived.Deep.QuietTactic
import Derived.BigQuiet
namespace Go.Proofs.YtpfhegengmlkmacGreatDoor
open Go.RowKit

/-- A world behind W: all that W has is as it was. -/
structure Lat (W : World) where
  w : World
  h : Below W.heap.size W w

theorem Lat.some (W : World) : Nonempty (Lat W) := ⟨⟨W, Below.refl _ _⟩⟩

theorem Lat.cell {W : World} (n : Lat W) {b o : Nat} {v : Value} (hlt : b < W.heap.size) (h : W.cell? ⟨b, o, none⟩ = Option.some v) : n.w.cell? ⟨b, o, none⟩ = Option.some v := cell_on n.h hlt h

theorem wp_region_lat {P : Program} {id : Nat} {Q : Exit → Act → World → Prop} {a : Act} {w : World} {l : List Oper} (hm : P.follows .mixedOrders = true) (hB : Region.lexB .any l.toArray = true)
    (h : wpQuiet P l.toArray (fun w' => ∃ n : Lat w, w' = n.w) (fun a' => ∀ w', (∃ n : Lat w, w' = n.w) → Q .normal a' w') l a) : (Code.region id l.toArray true).wp P Q a w :=
  wp_region_quiet (C := fun w' => ∃ n : Lat w, w' = n.w) hm hB ⟨⟨w.drew, (Below.refl _ _).drew⟩, rfl⟩ (by simpa using h)

theorem Calls.lat_of {P : Program} {f : FuncId} {args : Array Value} {W : World} {n : Lat W} {v : Value}
    (h : Calls P f args n.w fun e w' => e = .returned v ∧ Below n.w.heap.size n.w w') : Calls P f args n.w fun e w'' => e = .returned v ∧ ∃ m : Lat W, w'' = m.w :=
  h.mono fun _ w' ⟨he, hb⟩ => ⟨he, ⟨w', n.h.trans (hb.mono n.h.size)⟩, rfl⟩

theorem Calls.lat_same {P : Program} {f : FuncId} {args : Array Value} {W : World} {n : Lat W} {v : Value}
    (h : Calls P f args n.w fun e w' => e = .returned v ∧ w' = n.w) : Calls P f args n.w fun e w'' => e = .returned v ∧ ∃ m : Lat W, w'' = m.w :=
  h.mono fun _ _ ⟨he, hb⟩ => ⟨he, n, hb⟩

end Go.Proofs.YtpfhegengmlkmacGreatDoor
