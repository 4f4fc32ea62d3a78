/-
  DERIVED. GIVEN WITH THE SEED: THE CARDS: each row of YtpfhegengmlkmaaGreatDoorRows.lean that lists a variable, with what it lists TIED to the program's text (the seventh form; the later family's looks); each row that meets fmt, with fmt's text TOLD by the authors' own Lean function (tested against real Go, not proved from fmt's source: count such statements apart). THE CARD IS WHAT COUNTS. Prove the row's statement (the work); the ties are given (YtpfhegengmlkmaaGreatDoorTie.lean); close each card by the builder's one call (the guide's Derived/Test/ToyasCard.lean, 'card_holds'). Laid BY PROGRAM, IN A SANDBOX (cutbox-door.mjs). By AI agents, Wed Nov 11 2026. No macro, syntax, notation, axiom, sorry.
-/
import Derived.Test.YtpfhegengmlkmaaGreatDoorRows
import GoSem.ClaimSeven
namespace Go.Proofs.YtpfhegengmlkmaaGreatDoor
namespace Rows

/-- THE TIED CARD OF 'laws.FnStoneTop'. -/
def fnStoneTopCard : Claim7 := { stood := { row := fnStoneTopRow, standIns := [], harness := (true, "4014e88bfc60d1ce827e8374789f02b857e8f3767f3131e7801f978eaa56cb84"), looks := true }, kinds := [], alts := [], laidByText := true, laidKinds := [.handle], laidTests := true, laidLooks := .later }
def FnStoneTopCardSaid : Prop := Claim7.holds Tryz.pinned (.plain (OpenSpec.ofChange fnStoneTopSpec)) fnStoneTopCard

/-- THE TIED CARD OF 'laws.FnGatherFold'. -/
def fnGatherFoldCard : Claim7 := { stood := { row := fnGatherFoldRow, standIns := [], harness := (true, "4014e88bfc60d1ce827e8374789f02b857e8f3767f3131e7801f978eaa56cb84"), looks := true }, kinds := [], alts := [], laidByText := true, laidKinds := [.handle], laidTests := true, laidLooks := .later }
def FnGatherFoldCardSaid : Prop := Claim7.holds Tryz.pinned (.plain (OpenSpec.ofChange fnGatherFoldSpec)) fnGatherFoldCard

/-- THE TIED CARD OF 'laws.FnGatherTwice'. -/
def fnGatherTwiceCard : Claim7 := { stood := { row := fnGatherTwiceRow, standIns := [], harness := (true, "4014e88bfc60d1ce827e8374789f02b857e8f3767f3131e7801f978eaa56cb84"), looks := true }, kinds := [], alts := [], laidByText := true, laidKinds := [.handle], laidTests := true, laidLooks := .later }
def FnGatherTwiceCardSaid : Prop := Claim7.holds Tryz.pinned (.plain (OpenSpec.ofChange fnGatherTwiceSpec)) fnGatherTwiceCard

/-- THE SECOND FORM's CARD OF 'laws.FnStoneTop'. -/
def fnStoneTopUptoCard : Claim7 := { stood := { row := fnStoneTopUptoRow, standIns := [], harness := (true, "4014e88bfc60d1ce827e8374789f02b857e8f3767f3131e7801f978eaa56cb84"), looks := true }, kinds := [], alts := [], laidByText := true, laidKinds := [.handle], laidTests := true, laidLooks := .later }
def FnStoneTopUptoCardSaid : Prop := Claim7.holds Tryz.pinned (.plain (OpenSpec.upto fnStoneTopSpec)) fnStoneTopUptoCard

/-- THE SECOND FORM's CARD OF 'laws.FnGatherFold'. -/
def fnGatherFoldUptoCard : Claim7 := { stood := { row := fnGatherFoldUptoRow, standIns := [], harness := (true, "4014e88bfc60d1ce827e8374789f02b857e8f3767f3131e7801f978eaa56cb84"), looks := true }, kinds := [], alts := [], laidByText := true, laidKinds := [.handle], laidTests := true, laidLooks := .later }
def FnGatherFoldUptoCardSaid : Prop := Claim7.holds Tryz.pinned (.plain (OpenSpec.upto fnGatherFoldSpec)) fnGatherFoldUptoCard

/-- THE SECOND FORM's CARD OF 'laws.FnGatherTwice'. -/
def fnGatherTwiceUptoCard : Claim7 := { stood := { row := fnGatherTwiceUptoRow, standIns := [], harness := (true, "4014e88bfc60d1ce827e8374789f02b857e8f3767f3131e7801f978eaa56cb84"), looks := true }, kinds := [], alts := [], laidByText := true, laidKinds := [.handle], laidTests := true, laidLooks := .later }
def FnGatherTwiceUptoCardSaid : Prop := Claim7.holds Tryz.pinned (.plain (OpenSpec.upto fnGatherTwiceSpec)) fnGatherTwiceUptoCard
end Rows
end Go.Proofs.YtpfhegengmlkmaaGreatDoor
