/-
  DERIVED. GIVEN WITH THE SEED: THE CARDS: each row of YtpfhegengmlkmabGreatDoorRows.lean that lists a variable, with what it lists TIED to the program's text (the seventh form; the later family's looks); each row that meets fmt, with fmt's text TOLD by the authors' own Lean function (tested against real Go, not proved from fmt's source: count such statements apart). THE CARD IS WHAT COUNTS. Prove the row's statement (the work); the ties are given (YtpfhegengmlkmabGreatDoorTie.lean); close each card by the builder's one call (the guide's Derived/Test/ToyasCard.lean, 'card_holds'). Laid BY PROGRAM, IN A SANDBOX (cutbox-door.mjs). By AI agents, Wed Nov 11 2026. No macro, syntax, notation, axiom, sorry.
-/
import Derived.Test.YtpfhegengmlkmabGreatDoorRows
import GoSem.ClaimSeven
namespace Go.Proofs.YtpfhegengmlkmabGreatDoor
namespace Rows

/-- THE TIED CARD OF 'laws.FnTableTells'. -/
def fnTableTellsCard : Claim7 := { stood := { row := fnTableTellsRow, standIns := [], harness := (true, "38870d99d7000658f88a730b3ebb2c8a44be81c8d6240a46eb66e65fc3cd7da7"), looks := true }, kinds := [], alts := [], laidByText := true, laidKinds := [.data, .data, .data, .data, .handle, .sentinel, .sentinel, .sentinel, .data, .pinned], laidTests := true, laidLooks := .later }
def FnTableTellsCardSaid : Prop := Claim7.holds Tryz.pinned (.plain (OpenSpec.ofChange fnTableTellsSpec)) fnTableTellsCard

/-- THE SECOND FORM's CARD OF 'laws.FnTableTells'. -/
def fnTableTellsUptoCard : Claim7 := { stood := { row := fnTableTellsUptoRow, standIns := [], harness := (true, "38870d99d7000658f88a730b3ebb2c8a44be81c8d6240a46eb66e65fc3cd7da7"), looks := true }, kinds := [], alts := [], laidByText := true, laidKinds := [.data, .data, .data, .data, .handle, .sentinel, .sentinel, .sentinel, .data, .pinned], laidTests := true, laidLooks := .later }
def FnTableTellsUptoCardSaid : Prop := Claim7.holds Tryz.pinned (.plain (OpenSpec.upto fnTableTellsSpec)) fnTableTellsUptoCard
end Rows
end Go.Proofs.YtpfhegengmlkmabGreatDoor
