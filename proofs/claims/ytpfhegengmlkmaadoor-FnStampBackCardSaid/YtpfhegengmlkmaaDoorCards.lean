/-
  DERIVED. GIVEN WITH THE SEED: THE CARDS: each row of YtpfhegengmlkmaaDoorRows.lean that lists a variable, with what it lists TIED to the program's text (the seventh form; the later family's looks); each row that meets fmt, with fmt's text TOLD by the authors' own Lean function (tested against real Go, not proved from fmt's source: count such statements apart). THE CARD IS WHAT COUNTS. Prove the row's statement (the work); the ties are given (YtpfhegengmlkmaaDoorTie.lean); close each card by the builder's one call (the guide's Derived/Test/ToyasCard.lean, 'card_holds'). Laid BY PROGRAM, IN A SANDBOX (cutbox-door.mjs). By AI agents, Wed Nov 11 2026. No macro, syntax, notation, axiom, sorry.
-/
import Derived.Test.YtpfhegengmlkmaaDoorRows
import GoSem.ClaimSeven
namespace Go.Proofs.YtpfhegengmlkmaaDoor
namespace Rows

/-- THE TIED CARD OF 'laws.FnStampBack'. -/
def fnStampBackCard : Claim7 := { stood := { row := fnStampBackRow, standIns := [], harness := (true, "ae3dba25e5a83500b624bb6bc385bb3d1e853a40802b4cdc74341c7bf8ec8a45"), looks := false }, kinds := [], alts := [], laidByText := true, laidKinds := [.data, .data, .data], laidTests := true, laidLooks := .later }
def FnStampBackCardSaid : Prop := Claim7.holds Tryd.pinned (.plain (OpenSpec.ofChange fnStampBackSpec)) fnStampBackCard

/-- THE SECOND FORM's CARD OF 'laws.FnStampBack'. -/
def fnStampBackUptoCard : Claim7 := { stood := { row := fnStampBackUptoRow, standIns := [], harness := (true, "ae3dba25e5a83500b624bb6bc385bb3d1e853a40802b4cdc74341c7bf8ec8a45"), looks := false }, kinds := [], alts := [], laidByText := true, laidKinds := [.data, .data, .data], laidTests := true, laidLooks := .later }
def FnStampBackUptoCardSaid : Prop := Claim7.holds Tryd.pinned (.plain (OpenSpec.upto fnStampBackSpec)) fnStampBackUptoCard
end Rows
end Go.Proofs.YtpfhegengmlkmaaDoor
