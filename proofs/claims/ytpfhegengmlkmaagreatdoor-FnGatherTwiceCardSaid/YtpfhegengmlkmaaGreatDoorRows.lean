/-
  NARROWER THAN 'FOR EVERY INPUT', by the rows' own cells (each row's printed sentence says how): FnStoneTop: laid · FnGatherFold: laid · FnGatherTwice: laid.
  DERIVED. THE GIVEN ROWS OF THIS SEAT. 3 by the template 'for every input the law returns true; each argument reads behind the call as it read before'; 0 by the template 'total and deterministic' (their statements: YtpfhegengmlkmaaGreatDoorTotals.lean).
  GIVEN WITH THE SEED: the statements are not yours to turn. If you find one false, say at which input.
  Laid BY PROGRAM, IN A SANDBOX (cutbox-rows.mjs): the forced cells as the released guide's own fill.sh prints them over the translation 17c2265bf4e1bbc8… (all of the seat's roots in one cut). By AI agents, Wed Nov 11 2026. No macro, syntax, notation, axiom, sorry.
-/
import Derived.Test.YtpfhegengmlkmaaGreatDoorChecked
import GoSem.Claim
import GoSem.ClaimJoined
import GoSem.ClaimMapViews
import Derived.JoinedTies
import Derived.KernelRfl
namespace Go.Proofs.YtpfhegengmlkmaaGreatDoor
/- THE CELL 'sum', in the pinned program and in every row, IS THE sha256 OF THE DUMP (.gsa) THAT YtpfhegengmlkmaaGreatDoorProg.lean LOADS. Nothing in Lean hashes anything: it is a label: what it is worth is what the hold of that sum in a sandbox is worth. -/
noncomputable def Tryz.pinned : Pinned := { name := "ytpfhegengmlkmaagreatdoor", sum := "17c2265bf4e1bbc8aa5918b4c83580fe1d74176162f5be7ea313c24a2c4ce760", checked := Tryz.checked }
namespace Rows
def none {H : Type} : Left H := { results := [], args := [] }

/- WHAT THE LISTED PACKAGE-LEVEL VARIABLES READ AS WHEN THE CALL BEGINS. Each datum BY PROGRAM (the guide's laid-datum.mjs) off the statement by which the dump's own 'gosem.cut.vars' lays the variable. In a bare row this is a premise. The card (YtpfhegengmlkmaaGreatDoorCards.lean) ties it to the program's text. -/
def laid_errors_errorType {H : Type} : DataW H := .iface "internal/reflectlite.rtype" (.agg [.ptr (.lit (.string [101, 114, 114, 111, 114]))])

/-- 'laws.FnStoneTop': WHATEVER THE INPUT: true; the input reads as it did. -/
def fnStoneTopSpec : ChangeSpec := { name := "fnStoneTop", fn := fun _ => fun
  | [d] => { results := [.lit (.bool true)], args := [d] }
  | _ => none }
def fnStoneTopRow : OpenClaim := { program := "ytpfhegengmlkmaagreatdoor", sum := "17c2265bf4e1bbc8aa5918b4c83580fe1d74176162f5be7ea313c24a2c4ce760", func := "loop.example/bedstone/laws.FnStoneTop", spec := "fnStoneTop", inPlace := ["internal/reflectlite.ValueOf", "(internal/reflectlite.Value).Type", "(internal/reflectlite.Value).IsNil", "internal/reflectlite.TypeOf", "(internal/reflectlite.Value).Elem", "(internal/reflectlite.Value).Set"], unfollowed := true, recurses := true, named := ["errors.errorType"], apart := false, laid := [("errors.errorType", laid_errors_errorType)] }
def FnStoneTopSaid : Prop := fnStoneTopRow.holds Tryz.pinned (OpenSpec.ofChange fnStoneTopSpec)

/-- ITS FALSE NEIGHBOUR: 'it returns false'. Refute it at one input. -/
def fnStoneTopWrong : ChangeSpec := { name := "fnStoneTop", fn := fun _ => fun
  | [d] => { results := [.lit (.bool false)], args := [d] }
  | _ => none }
def FnStoneTopWrongFalsely : Prop := fnStoneTopRow.holds Tryz.pinned (OpenSpec.ofChange fnStoneTopWrong)

/-- 'laws.FnGatherFold': WHATEVER THE INPUT: true; the input reads as it did. -/
def fnGatherFoldSpec : ChangeSpec := { name := "fnGatherFold", fn := fun _ => fun
  | [d1, d2] => { results := [.lit (.bool true)], args := [d1, d2] }
  | _ => none }
def fnGatherFoldRow : OpenClaim := { program := "ytpfhegengmlkmaagreatdoor", sum := "17c2265bf4e1bbc8aa5918b4c83580fe1d74176162f5be7ea313c24a2c4ce760", func := "loop.example/bedstone/laws.FnGatherFold", spec := "fnGatherFold", inPlace := ["internal/reflectlite.ValueOf", "(internal/reflectlite.Value).Type", "(internal/reflectlite.Value).IsNil", "internal/reflectlite.TypeOf", "(internal/reflectlite.Value).Elem", "(internal/reflectlite.Value).Set"], unfollowed := true, recurses := true, named := ["errors.errorType"], apart := false, laid := [("errors.errorType", laid_errors_errorType)] }
def FnGatherFoldSaid : Prop := fnGatherFoldRow.holds Tryz.pinned (OpenSpec.ofChange fnGatherFoldSpec)

/-- ITS FALSE NEIGHBOUR: 'it returns false'. Refute it at one input. -/
def fnGatherFoldWrong : ChangeSpec := { name := "fnGatherFold", fn := fun _ => fun
  | [d1, d2] => { results := [.lit (.bool false)], args := [d1, d2] }
  | _ => none }
def FnGatherFoldWrongFalsely : Prop := fnGatherFoldRow.holds Tryz.pinned (OpenSpec.ofChange fnGatherFoldWrong)

/-- 'laws.FnGatherTwice': WHATEVER THE INPUT: true; the input reads as it did. -/
def fnGatherTwiceSpec : ChangeSpec := { name := "fnGatherTwice", fn := fun _ => fun
  | [d] => { results := [.lit (.bool true)], args := [d] }
  | _ => none }
def fnGatherTwiceRow : OpenClaim := { program := "ytpfhegengmlkmaagreatdoor", sum := "17c2265bf4e1bbc8aa5918b4c83580fe1d74176162f5be7ea313c24a2c4ce760", func := "loop.example/bedstone/laws.FnGatherTwice", spec := "fnGatherTwice", inPlace := ["internal/reflectlite.ValueOf", "(internal/reflectlite.Value).Type", "(internal/reflectlite.Value).IsNil", "internal/reflectlite.TypeOf", "(internal/reflectlite.Value).Elem", "(internal/reflectlite.Value).Set"], unfollowed := true, recurses := true, named := ["errors.errorType"], apart := false, laid := [("errors.errorType", laid_errors_errorType)] }
def FnGatherTwiceSaid : Prop := fnGatherTwiceRow.holds Tryz.pinned (OpenSpec.ofChange fnGatherTwiceSpec)

/-- ITS FALSE NEIGHBOUR: 'it returns false'. Refute it at one input. -/
def fnGatherTwiceWrong : ChangeSpec := { name := "fnGatherTwice", fn := fun _ => fun
  | [d] => { results := [.lit (.bool false)], args := [d] }
  | _ => none }
def FnGatherTwiceWrongFalsely : Prop := fnGatherTwiceRow.holds Tryz.pinned (OpenSpec.ofChange fnGatherTwiceWrong)

/- THE SECOND FORM. 'bulk': how many values and letters a reading holds, each counted each time it is reached (what is shared counts as often as it is met; a slice's spare places count too). A statement '..UptoSaid' is the law's where the arguments, and the package variables that the reading takes, are together of bulk at most 1048576: NARROWER than '..Said'. Prove '..Said' where nothing that the law and all that it calls make is longer than what came in: it says more and counts as full. Else prove '..UptoSaid'. A law counts once. -/
mutual
def uptoBulk {H : Type} : DataW H → Nat
  | .lit (.string bytes) => bytes.length + 1
  | .lit _ => 1
  | .nil => 1
  | .ptr d => uptoBulk d + 1
  | .slice elems spare => uptoBulkAll elems + uptoBulkAll spare + 1
  | .agg parts => uptoBulkAll parts + 1
  | .iface _ d => uptoBulk d + 1
  | .map entries => uptoBulkEntries entries + 1
  | .held _ => 1
def uptoBulkAll {H : Type} : List (DataW H) → Nat
  | [] => 0
  | d :: r => uptoBulk d + uptoBulkAll r
def uptoBulkEntries {H : Type} : List (Lit × DataW H) → Nat
  | [] => 0
  | x :: r => uptoBulkEntry x + uptoBulkEntries r
def uptoBulkEntry {H : Type} : Lit × DataW H → Nat
  | (.string bytes, d) => bytes.length + uptoBulk d + 1
  | (_, d) => uptoBulk d + 1
 end
def uptoSmall : (H : Type) → List (DataW H) → Bool := fun _ ds => decide (uptoBulkAll ds ≤ 1048576)
def OpenSpec.upto (s : _root_.Go.ChangeSpec) : _root_.Go.OpenSpec := { _root_.Go.OpenSpec.ofChange s with cond := some uptoSmall }

/-- 'laws.FnStoneTop', WHERE WHAT IT READS IS OF BULK AT MOST 1048576: true; the input reads as it did. -/
def fnStoneTopUptoRow : OpenClaim := { program := "ytpfhegengmlkmaagreatdoor", sum := "17c2265bf4e1bbc8aa5918b4c83580fe1d74176162f5be7ea313c24a2c4ce760", func := "loop.example/bedstone/laws.FnStoneTop", spec := "fnStoneTop", inPlace := ["internal/reflectlite.ValueOf", "(internal/reflectlite.Value).Type", "(internal/reflectlite.Value).IsNil", "internal/reflectlite.TypeOf", "(internal/reflectlite.Value).Elem", "(internal/reflectlite.Value).Set"], unfollowed := true, recurses := true, named := ["errors.errorType"], apart := false, laid := [("errors.errorType", laid_errors_errorType)], narrowed := true }
def FnStoneTopUptoSaid : Prop := fnStoneTopUptoRow.holds Tryz.pinned (OpenSpec.upto fnStoneTopSpec)

/-- 'laws.FnGatherFold', WHERE WHAT IT READS IS OF BULK AT MOST 1048576: true; the input reads as it did. -/
def fnGatherFoldUptoRow : OpenClaim := { program := "ytpfhegengmlkmaagreatdoor", sum := "17c2265bf4e1bbc8aa5918b4c83580fe1d74176162f5be7ea313c24a2c4ce760", func := "loop.example/bedstone/laws.FnGatherFold", spec := "fnGatherFold", inPlace := ["internal/reflectlite.ValueOf", "(internal/reflectlite.Value).Type", "(internal/reflectlite.Value).IsNil", "internal/reflectlite.TypeOf", "(internal/reflectlite.Value).Elem", "(internal/reflectlite.Value).Set"], unfollowed := true, recurses := true, named := ["errors.errorType"], apart := false, laid := [("errors.errorType", laid_errors_errorType)], narrowed := true }
def FnGatherFoldUptoSaid : Prop := fnGatherFoldUptoRow.holds Tryz.pinned (OpenSpec.upto fnGatherFoldSpec)

/-- 'laws.FnGatherTwice', WHERE WHAT IT READS IS OF BULK AT MOST 1048576: true; the input reads as it did. -/
def fnGatherTwiceUptoRow : OpenClaim := { program := "ytpfhegengmlkmaagreatdoor", sum := "17c2265bf4e1bbc8aa5918b4c83580fe1d74176162f5be7ea313c24a2c4ce760", func := "loop.example/bedstone/laws.FnGatherTwice", spec := "fnGatherTwice", inPlace := ["internal/reflectlite.ValueOf", "(internal/reflectlite.Value).Type", "(internal/reflectlite.Value).IsNil", "internal/reflectlite.TypeOf", "(internal/reflectlite.Value).Elem", "(internal/reflectlite.Value).Set"], unfollowed := true, recurses := true, named := ["errors.errorType"], apart := false, laid := [("errors.errorType", laid_errors_errorType)], narrowed := true }
def FnGatherTwiceUptoSaid : Prop := fnGatherTwiceUptoRow.holds Tryz.pinned (OpenSpec.upto fnGatherTwiceSpec)

end Rows
end Go.Proofs.YtpfhegengmlkmaaGreatDoor
