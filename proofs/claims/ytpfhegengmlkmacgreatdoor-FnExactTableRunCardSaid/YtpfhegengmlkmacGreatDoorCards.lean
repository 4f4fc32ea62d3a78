/-
  DERIVED. GIVEN WITH THE SEED: THE CARDS: each row of YtpfhegengmlkmacGreatDoorRows.lean that lists a variable, with what it lists TIED to the program's text (the seventh form; the later family's looks); each row that meets fmt, with fmt's text TOLD by the authors' own Lean function (tested against real Go, not proved from fmt's source: count such statements apart). THE CARD IS WHAT COUNTS. Prove the row's statement (the work); the ties are given (YtpfhegengmlkmacGreatDoorTie.lean); close each card by the builder's one call (the guide's Derived/Test/ToyasCard.lean, 'card_holds'). Laid BY PROGRAM, IN A SANDBOX (cutbox-door.mjs). By AI agents, Wed Nov 11 2026. No macro, syntax, notation, axiom, sorry.
-/
import Derived.Test.YtpfhegengmlkmacGreatDoorRows
import GoSem.ClaimSeven
namespace Go.Proofs.YtpfhegengmlkmacGreatDoor
namespace Rows

/-- THE TIED CARD OF 'laws.FnExactGatherPut'. -/
def fnExactGatherPutCard : Claim7 := { stood := { row := fnExactGatherPutRow, standIns := [], harness := (true, "9155af96bf38d19dc1f71702ba60df001eed222135465a7305fbd36363710598"), looks := true }, kinds := [], alts := [], laidByText := true, laidKinds := [.handle], laidTests := true, laidLooks := .later }
def FnExactGatherPutCardSaid : Prop := Claim7.holds Tryz.pinned (.plain (OpenSpec.ofChange fnExactGatherPutSpec)) fnExactGatherPutCard

/-- THE TIED CARD OF 'laws.FnExactGatherPlay'. -/
def fnExactGatherPlayCard : Claim7 := { stood := { row := fnExactGatherPlayRow, standIns := [], harness := (true, "9155af96bf38d19dc1f71702ba60df001eed222135465a7305fbd36363710598"), looks := true }, kinds := [], alts := [], laidByText := true, laidKinds := [.handle], laidTests := true, laidLooks := .later }
def FnExactGatherPlayCardSaid : Prop := Claim7.holds Tryz.pinned (.plain (OpenSpec.ofChange fnExactGatherPlaySpec)) fnExactGatherPlayCard

/-- THE TIED CARD OF 'laws.FnExactTableRun'. -/
def fnExactTableRunCard : Claim7 := { stood := { row := fnExactTableRunRow, standIns := [], harness := (true, "9155af96bf38d19dc1f71702ba60df001eed222135465a7305fbd36363710598"), looks := true }, kinds := [], alts := [], laidByText := true, laidKinds := [.data, .data, .data, .data, .handle, .sentinel, .sentinel, .sentinel, .data, .pinned], laidTests := true, laidLooks := .later }
def FnExactTableRunCardSaid : Prop := Claim7.holds Tryz.pinned (.plain (OpenSpec.ofChange fnExactTableRunSpec)) fnExactTableRunCard

/-- THE SECOND FORM's CARD OF 'laws.FnExactGatherPut'. -/
def fnExactGatherPutUptoCard : Claim7 := { stood := { row := fnExactGatherPutUptoRow, standIns := [], harness := (true, "9155af96bf38d19dc1f71702ba60df001eed222135465a7305fbd36363710598"), looks := true }, kinds := [], alts := [], laidByText := true, laidKinds := [.handle], laidTests := true, laidLooks := .later }
def FnExactGatherPutUptoCardSaid : Prop := Claim7.holds Tryz.pinned (.plain (OpenSpec.upto fnExactGatherPutSpec)) fnExactGatherPutUptoCard

/-- THE SECOND FORM's CARD OF 'laws.FnExactGatherPlay'. -/
def fnExactGatherPlayUptoCard : Claim7 := { stood := { row := fnExactGatherPlayUptoRow, standIns := [], harness := (true, "9155af96bf38d19dc1f71702ba60df001eed222135465a7305fbd36363710598"), looks := true }, kinds := [], alts := [], laidByText := true, laidKinds := [.handle], laidTests := true, laidLooks := .later }
def FnExactGatherPlayUptoCardSaid : Prop := Claim7.holds Tryz.pinned (.plain (OpenSpec.upto fnExactGatherPlaySpec)) fnExactGatherPlayUptoCard

/-- THE SECOND FORM's CARD OF 'laws.FnExactTableRun'. -/
def fnExactTableRunUptoCard : Claim7 := { stood := { row := fnExactTableRunUptoRow, standIns := [], harness := (true, "9155af96bf38d19dc1f71702ba60df001eed222135465a7305fbd36363710598"), looks := true }, kinds := [], alts := [], laidByText := true, laidKinds := [.data, .data, .data, .data, .handle, .sentinel, .sentinel, .sentinel, .data, .pinned], laidTests := true, laidLooks := .later }
def FnExactTableRunUptoCardSaid : Prop := Claim7.holds Tryz.pinned (.plain (OpenSpec.upto fnExactTableRunSpec)) fnExactTableRunUptoCard
end Rows
end Go.Proofs.YtpfhegengmlkmacGreatDoor
