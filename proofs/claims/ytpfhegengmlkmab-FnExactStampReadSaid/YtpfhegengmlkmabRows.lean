/-
  No cell of these rows narrows 'for every input' (looked for: loops, veiled, ifaces, maps, wideKeys, modest, calm, conditions, laid).
  DERIVED. THE GIVEN ROWS OF THIS SEAT. 10 by the template 'for every input the law returns true; each argument reads behind the call as it read before'; 0 by the template 'total and deterministic' (their statements: YtpfhegengmlkmabTotals.lean).
  GIVEN WITH THE SEED: the statements are not yours to turn. If you find one false, say at which input.
  Laid BY PROGRAM, IN A SANDBOX (cutbox-rows.mjs): the forced cells as the released guide's own fill.sh prints them over the translation ac2a7ac234a39b7d… (all of the seat's roots in one cut). By AI agents, Wed Nov 11 2026. No macro, syntax, notation, axiom, sorry.
-/
import Derived.Test.YtpfhegengmlkmabChecked
import GoSem.Claim
import GoSem.ClaimJoined
import GoSem.ClaimMapViews
import Derived.JoinedTies
import Derived.KernelRfl
namespace Go.Proofs.Ytpfhegengmlkmab
/- THE CELL 'sum', in the pinned program and in every row, IS THE sha256 OF THE DUMP (.gsa) THAT YtpfhegengmlkmabProg.lean LOADS. Nothing in Lean hashes anything: it is a label: what it is worth is what the hold of that sum in a sandbox is worth. -/
noncomputable def Try.pinned : Pinned := { name := "ytpfhegengmlkmab", sum := "ac2a7ac234a39b7d7f1779b8af8c41fd960606c048bda691dd29060c9331ea87", checked := Try.checked }
namespace Rows
def none {H : Type} : Left H := { results := [], args := [] }

/-- 'laws.FnExactStampOk': WHATEVER THE INPUT: true; the input reads as it did. -/
def fnExactStampOkSpec : ChangeSpec := { name := "fnExactStampOk", fn := fun _ => fun
  | [d] => { results := [.lit (.bool true)], args := [d] }
  | _ => none }
def fnExactStampOkRow : OpenClaim := { program := "ytpfhegengmlkmab", sum := "ac2a7ac234a39b7d7f1779b8af8c41fd960606c048bda691dd29060c9331ea87", func := "loop.example/bedstone/laws.FnExactStampOk", spec := "fnExactStampOk", apart := false }
def FnExactStampOkSaid : Prop := fnExactStampOkRow.holds Try.pinned (OpenSpec.ofChange fnExactStampOkSpec)

/-- ITS FALSE NEIGHBOUR: 'it returns false'. Refute it at one input. -/
def fnExactStampOkWrong : ChangeSpec := { name := "fnExactStampOk", fn := fun _ => fun
  | [d] => { results := [.lit (.bool false)], args := [d] }
  | _ => none }
def FnExactStampOkWrongFalsely : Prop := fnExactStampOkRow.holds Try.pinned (OpenSpec.ofChange fnExactStampOkWrong)

/-- 'laws.FnExactStampGet': WHATEVER THE INPUT: true; the input reads as it did. -/
def fnExactStampGetSpec : ChangeSpec := { name := "fnExactStampGet", fn := fun _ => fun
  | [d1, d2] => { results := [.lit (.bool true)], args := [d1, d2] }
  | _ => none }
def fnExactStampGetRow : OpenClaim := { program := "ytpfhegengmlkmab", sum := "ac2a7ac234a39b7d7f1779b8af8c41fd960606c048bda691dd29060c9331ea87", func := "loop.example/bedstone/laws.FnExactStampGet", spec := "fnExactStampGet", apart := false }
def FnExactStampGetSaid : Prop := fnExactStampGetRow.holds Try.pinned (OpenSpec.ofChange fnExactStampGetSpec)

/-- ITS FALSE NEIGHBOUR: 'it returns false'. Refute it at one input. -/
def fnExactStampGetWrong : ChangeSpec := { name := "fnExactStampGet", fn := fun _ => fun
  | [d1, d2] => { results := [.lit (.bool false)], args := [d1, d2] }
  | _ => none }
def FnExactStampGetWrongFalsely : Prop := fnExactStampGetRow.holds Try.pinned (OpenSpec.ofChange fnExactStampGetWrong)

/-- 'laws.FnExactStampJoin': WHATEVER THE INPUT: true; the input reads as it did. -/
def fnExactStampJoinSpec : ChangeSpec := { name := "fnExactStampJoin", fn := fun _ => fun
  | [d1, d2] => { results := [.lit (.bool true)], args := [d1, d2] }
  | _ => none }
def fnExactStampJoinRow : OpenClaim := { program := "ytpfhegengmlkmab", sum := "ac2a7ac234a39b7d7f1779b8af8c41fd960606c048bda691dd29060c9331ea87", func := "loop.example/bedstone/laws.FnExactStampJoin", spec := "fnExactStampJoin", unfollowed := true, recurses := true, apart := false }
def FnExactStampJoinSaid : Prop := fnExactStampJoinRow.holds Try.pinned (OpenSpec.ofChange fnExactStampJoinSpec)

/-- ITS FALSE NEIGHBOUR: 'it returns false'. Refute it at one input. -/
def fnExactStampJoinWrong : ChangeSpec := { name := "fnExactStampJoin", fn := fun _ => fun
  | [d1, d2] => { results := [.lit (.bool false)], args := [d1, d2] }
  | _ => none }
def FnExactStampJoinWrongFalsely : Prop := fnExactStampJoinRow.holds Try.pinned (OpenSpec.ofChange fnExactStampJoinWrong)

/-- 'laws.FnExactStampAgree': WHATEVER THE INPUT: true; the input reads as it did. -/
def fnExactStampAgreeSpec : ChangeSpec := { name := "fnExactStampAgree", fn := fun _ => fun
  | [d1, d2] => { results := [.lit (.bool true)], args := [d1, d2] }
  | _ => none }
def fnExactStampAgreeRow : OpenClaim := { program := "ytpfhegengmlkmab", sum := "ac2a7ac234a39b7d7f1779b8af8c41fd960606c048bda691dd29060c9331ea87", func := "loop.example/bedstone/laws.FnExactStampAgree", spec := "fnExactStampAgree", unfollowed := true, recurses := true, apart := false }
def FnExactStampAgreeSaid : Prop := fnExactStampAgreeRow.holds Try.pinned (OpenSpec.ofChange fnExactStampAgreeSpec)

/-- ITS FALSE NEIGHBOUR: 'it returns false'. Refute it at one input. -/
def fnExactStampAgreeWrong : ChangeSpec := { name := "fnExactStampAgree", fn := fun _ => fun
  | [d1, d2] => { results := [.lit (.bool false)], args := [d1, d2] }
  | _ => none }
def FnExactStampAgreeWrongFalsely : Prop := fnExactStampAgreeRow.holds Try.pinned (OpenSpec.ofChange fnExactStampAgreeWrong)

/-- 'laws.FnExactStampOrder': WHATEVER THE INPUT: true; the input reads as it did. -/
def fnExactStampOrderSpec : ChangeSpec := { name := "fnExactStampOrder", fn := fun _ => fun
  | [d1, d2] => { results := [.lit (.bool true)], args := [d1, d2] }
  | _ => none }
def fnExactStampOrderRow : OpenClaim := { program := "ytpfhegengmlkmab", sum := "ac2a7ac234a39b7d7f1779b8af8c41fd960606c048bda691dd29060c9331ea87", func := "loop.example/bedstone/laws.FnExactStampOrder", spec := "fnExactStampOrder", unfollowed := true, recurses := true, apart := false }
def FnExactStampOrderSaid : Prop := fnExactStampOrderRow.holds Try.pinned (OpenSpec.ofChange fnExactStampOrderSpec)

/-- ITS FALSE NEIGHBOUR: 'it returns false'. Refute it at one input. -/
def fnExactStampOrderWrong : ChangeSpec := { name := "fnExactStampOrder", fn := fun _ => fun
  | [d1, d2] => { results := [.lit (.bool false)], args := [d1, d2] }
  | _ => none }
def FnExactStampOrderWrongFalsely : Prop := fnExactStampOrderRow.holds Try.pinned (OpenSpec.ofChange fnExactStampOrderWrong)

/-- 'laws.FnExactStampOnly': WHATEVER THE INPUT: true; the input reads as it did. -/
def fnExactStampOnlySpec : ChangeSpec := { name := "fnExactStampOnly", fn := fun _ => fun
  | [d1, d2] => { results := [.lit (.bool true)], args := [d1, d2] }
  | _ => none }
def fnExactStampOnlyRow : OpenClaim := { program := "ytpfhegengmlkmab", sum := "ac2a7ac234a39b7d7f1779b8af8c41fd960606c048bda691dd29060c9331ea87", func := "loop.example/bedstone/laws.FnExactStampOnly", spec := "fnExactStampOnly", apart := false }
def FnExactStampOnlySaid : Prop := fnExactStampOnlyRow.holds Try.pinned (OpenSpec.ofChange fnExactStampOnlySpec)

/-- ITS FALSE NEIGHBOUR: 'it returns false'. Refute it at one input. -/
def fnExactStampOnlyWrong : ChangeSpec := { name := "fnExactStampOnly", fn := fun _ => fun
  | [d1, d2] => { results := [.lit (.bool false)], args := [d1, d2] }
  | _ => none }
def FnExactStampOnlyWrongFalsely : Prop := fnExactStampOnlyRow.holds Try.pinned (OpenSpec.ofChange fnExactStampOnlyWrong)

/-- 'laws.FnExactStampRead': WHATEVER THE INPUT: true; the input reads as it did. -/
def fnExactStampReadSpec : ChangeSpec := { name := "fnExactStampRead", fn := fun _ => fun
  | [d] => { results := [.lit (.bool true)], args := [d] }
  | _ => none }
def fnExactStampReadRow : OpenClaim := { program := "ytpfhegengmlkmab", sum := "ac2a7ac234a39b7d7f1779b8af8c41fd960606c048bda691dd29060c9331ea87", func := "loop.example/bedstone/laws.FnExactStampRead", spec := "fnExactStampRead", apart := false }
def FnExactStampReadSaid : Prop := fnExactStampReadRow.holds Try.pinned (OpenSpec.ofChange fnExactStampReadSpec)

/-- ITS FALSE NEIGHBOUR: 'it returns false'. Refute it at one input. -/
def fnExactStampReadWrong : ChangeSpec := { name := "fnExactStampRead", fn := fun _ => fun
  | [d] => { results := [.lit (.bool false)], args := [d] }
  | _ => none }
def FnExactStampReadWrongFalsely : Prop := fnExactStampReadRow.holds Try.pinned (OpenSpec.ofChange fnExactStampReadWrong)

/-- 'laws.FnExactWindowOk': WHATEVER THE INPUT: true; the input reads as it did. -/
def fnExactWindowOkSpec : ChangeSpec := { name := "fnExactWindowOk", fn := fun _ => fun
  | [d] => { results := [.lit (.bool true)], args := [d] }
  | _ => none }
def fnExactWindowOkRow : OpenClaim := { program := "ytpfhegengmlkmab", sum := "ac2a7ac234a39b7d7f1779b8af8c41fd960606c048bda691dd29060c9331ea87", func := "loop.example/bedstone/laws.FnExactWindowOk", spec := "fnExactWindowOk", unfollowed := true, recurses := true, apart := false }
def FnExactWindowOkSaid : Prop := fnExactWindowOkRow.holds Try.pinned (OpenSpec.ofChange fnExactWindowOkSpec)

/-- ITS FALSE NEIGHBOUR: 'it returns false'. Refute it at one input. -/
def fnExactWindowOkWrong : ChangeSpec := { name := "fnExactWindowOk", fn := fun _ => fun
  | [d] => { results := [.lit (.bool false)], args := [d] }
  | _ => none }
def FnExactWindowOkWrongFalsely : Prop := fnExactWindowOkRow.holds Try.pinned (OpenSpec.ofChange fnExactWindowOkWrong)

/-- 'laws.FnExactWindowPut': WHATEVER THE INPUT: true; the input reads as it did. -/
def fnExactWindowPutSpec : ChangeSpec := { name := "fnExactWindowPut", fn := fun _ => fun
  | [d1, d2] => { results := [.lit (.bool true)], args := [d1, d2] }
  | _ => none }
def fnExactWindowPutRow : OpenClaim := { program := "ytpfhegengmlkmab", sum := "ac2a7ac234a39b7d7f1779b8af8c41fd960606c048bda691dd29060c9331ea87", func := "loop.example/bedstone/laws.FnExactWindowPut", spec := "fnExactWindowPut", unfollowed := true, recurses := true, apart := false }
def FnExactWindowPutSaid : Prop := fnExactWindowPutRow.holds Try.pinned (OpenSpec.ofChange fnExactWindowPutSpec)

/-- ITS FALSE NEIGHBOUR: 'it returns false'. Refute it at one input. -/
def fnExactWindowPutWrong : ChangeSpec := { name := "fnExactWindowPut", fn := fun _ => fun
  | [d1, d2] => { results := [.lit (.bool false)], args := [d1, d2] }
  | _ => none }
def FnExactWindowPutWrongFalsely : Prop := fnExactWindowPutRow.holds Try.pinned (OpenSpec.ofChange fnExactWindowPutWrong)

/-- 'laws.FnExactWindowLast': WHATEVER THE INPUT: true; the input reads as it did. -/
def fnExactWindowLastSpec : ChangeSpec := { name := "fnExactWindowLast", fn := fun _ => fun
  | [d] => { results := [.lit (.bool true)], args := [d] }
  | _ => none }
def fnExactWindowLastRow : OpenClaim := { program := "ytpfhegengmlkmab", sum := "ac2a7ac234a39b7d7f1779b8af8c41fd960606c048bda691dd29060c9331ea87", func := "loop.example/bedstone/laws.FnExactWindowLast", spec := "fnExactWindowLast", unfollowed := true, recurses := true, apart := false }
def FnExactWindowLastSaid : Prop := fnExactWindowLastRow.holds Try.pinned (OpenSpec.ofChange fnExactWindowLastSpec)

/-- ITS FALSE NEIGHBOUR: 'it returns false'. Refute it at one input. -/
def fnExactWindowLastWrong : ChangeSpec := { name := "fnExactWindowLast", fn := fun _ => fun
  | [d] => { results := [.lit (.bool false)], args := [d] }
  | _ => none }
def FnExactWindowLastWrongFalsely : Prop := fnExactWindowLastRow.holds Try.pinned (OpenSpec.ofChange fnExactWindowLastWrong)

/- THE SECOND FORM. 'bulk': how many values and letters a reading holds, each counted each time it is reached (what is shared counts as often as it is met; a slice's spare places count too). A statement '..UptoSaid' is the law's where the arguments, and the package variables that the reading takes, are together of bulk at most 1048576: NARROWER than '..Said'. Prove '..Said' where nothing that the law and all that it calls make is longer than what came in: it says more and counts as full. Else prove '..UptoSaid'. A law counts once. -/
mutual
def uptoBulk {H : Type} : DataW H → Nat
  | .lit (.string bytes) => bytes.length + 1
  | .lit _ => 1
  | .nil => 1
  | .ptr d => uptoBulk d + 1
  | .slice elems spare => uptoBulkAll elems + uptoBulkAll spare + 1
  | .agg parts => uptoBulkAll parts + 1
  | .iface _ d => uptoBulk d + 1
  | .map entries => uptoBulkEntries entries + 1
  | .held _ => 1
def uptoBulkAll {H : Type} : List (DataW H) → Nat
  | [] => 0
  | d :: r => uptoBulk d + uptoBulkAll r
def uptoBulkEntries {H : Type} : List (Lit × DataW H) → Nat
  | [] => 0
  | x :: r => uptoBulkEntry x + uptoBulkEntries r
def uptoBulkEntry {H : Type} : Lit × DataW H → Nat
  | (.string bytes, d) => bytes.length + uptoBulk d + 1
  | (_, d) => uptoBulk d + 1
 end
def uptoSmall : (H : Type) → List (DataW H) → Bool := fun _ ds => decide (uptoBulkAll ds ≤ 1048576)
def OpenSpec.upto (s : _root_.Go.ChangeSpec) : _root_.Go.OpenSpec := { _root_.Go.OpenSpec.ofChange s with cond := some uptoSmall }

/-- 'laws.FnExactStampOk', WHERE WHAT IT READS IS OF BULK AT MOST 1048576: true; the input reads as it did. -/
def fnExactStampOkUptoRow : OpenClaim := { program := "ytpfhegengmlkmab", sum := "ac2a7ac234a39b7d7f1779b8af8c41fd960606c048bda691dd29060c9331ea87", func := "loop.example/bedstone/laws.FnExactStampOk", spec := "fnExactStampOk", apart := false, narrowed := true }
def FnExactStampOkUptoSaid : Prop := fnExactStampOkUptoRow.holds Try.pinned (OpenSpec.upto fnExactStampOkSpec)

/-- 'laws.FnExactStampGet', WHERE WHAT IT READS IS OF BULK AT MOST 1048576: true; the input reads as it did. -/
def fnExactStampGetUptoRow : OpenClaim := { program := "ytpfhegengmlkmab", sum := "ac2a7ac234a39b7d7f1779b8af8c41fd960606c048bda691dd29060c9331ea87", func := "loop.example/bedstone/laws.FnExactStampGet", spec := "fnExactStampGet", apart := false, narrowed := true }
def FnExactStampGetUptoSaid : Prop := fnExactStampGetUptoRow.holds Try.pinned (OpenSpec.upto fnExactStampGetSpec)

/-- 'laws.FnExactStampJoin', WHERE WHAT IT READS IS OF BULK AT MOST 1048576: true; the input reads as it did. -/
def fnExactStampJoinUptoRow : OpenClaim := { program := "ytpfhegengmlkmab", sum := "ac2a7ac234a39b7d7f1779b8af8c41fd960606c048bda691dd29060c9331ea87", func := "loop.example/bedstone/laws.FnExactStampJoin", spec := "fnExactStampJoin", unfollowed := true, recurses := true, apart := false, narrowed := true }
def FnExactStampJoinUptoSaid : Prop := fnExactStampJoinUptoRow.holds Try.pinned (OpenSpec.upto fnExactStampJoinSpec)

/-- 'laws.FnExactStampAgree', WHERE WHAT IT READS IS OF BULK AT MOST 1048576: true; the input reads as it did. -/
def fnExactStampAgreeUptoRow : OpenClaim := { program := "ytpfhegengmlkmab", sum := "ac2a7ac234a39b7d7f1779b8af8c41fd960606c048bda691dd29060c9331ea87", func := "loop.example/bedstone/laws.FnExactStampAgree", spec := "fnExactStampAgree", unfollowed := true, recurses := true, apart := false, narrowed := true }
def FnExactStampAgreeUptoSaid : Prop := fnExactStampAgreeUptoRow.holds Try.pinned (OpenSpec.upto fnExactStampAgreeSpec)

/-- 'laws.FnExactStampOrder', WHERE WHAT IT READS IS OF BULK AT MOST 1048576: true; the input reads as it did. -/
def fnExactStampOrderUptoRow : OpenClaim := { program := "ytpfhegengmlkmab", sum := "ac2a7ac234a39b7d7f1779b8af8c41fd960606c048bda691dd29060c9331ea87", func := "loop.example/bedstone/laws.FnExactStampOrder", spec := "fnExactStampOrder", unfollowed := true, recurses := true, apart := false, narrowed := true }
def FnExactStampOrderUptoSaid : Prop := fnExactStampOrderUptoRow.holds Try.pinned (OpenSpec.upto fnExactStampOrderSpec)

/-- 'laws.FnExactStampOnly', WHERE WHAT IT READS IS OF BULK AT MOST 1048576: true; the input reads as it did. -/
def fnExactStampOnlyUptoRow : OpenClaim := { program := "ytpfhegengmlkmab", sum := "ac2a7ac234a39b7d7f1779b8af8c41fd960606c048bda691dd29060c9331ea87", func := "loop.example/bedstone/laws.FnExactStampOnly", spec := "fnExactStampOnly", apart := false, narrowed := true }
def FnExactStampOnlyUptoSaid : Prop := fnExactStampOnlyUptoRow.holds Try.pinned (OpenSpec.upto fnExactStampOnlySpec)

/-- 'laws.FnExactStampRead', WHERE WHAT IT READS IS OF BULK AT MOST 1048576: true; the input reads as it did. -/
def fnExactStampReadUptoRow : OpenClaim := { program := "ytpfhegengmlkmab", sum := "ac2a7ac234a39b7d7f1779b8af8c41fd960606c048bda691dd29060c9331ea87", func := "loop.example/bedstone/laws.FnExactStampRead", spec := "fnExactStampRead", apart := false, narrowed := true }
def FnExactStampReadUptoSaid : Prop := fnExactStampReadUptoRow.holds Try.pinned (OpenSpec.upto fnExactStampReadSpec)

/-- 'laws.FnExactWindowOk', WHERE WHAT IT READS IS OF BULK AT MOST 1048576: true; the input reads as it did. -/
def fnExactWindowOkUptoRow : OpenClaim := { program := "ytpfhegengmlkmab", sum := "ac2a7ac234a39b7d7f1779b8af8c41fd960606c048bda691dd29060c9331ea87", func := "loop.example/bedstone/laws.FnExactWindowOk", spec := "fnExactWindowOk", unfollowed := true, recurses := true, apart := false, narrowed := true }
def FnExactWindowOkUptoSaid : Prop := fnExactWindowOkUptoRow.holds Try.pinned (OpenSpec.upto fnExactWindowOkSpec)

/-- 'laws.FnExactWindowPut', WHERE WHAT IT READS IS OF BULK AT MOST 1048576: true; the input reads as it did. -/
def fnExactWindowPutUptoRow : OpenClaim := { program := "ytpfhegengmlkmab", sum := "ac2a7ac234a39b7d7f1779b8af8c41fd960606c048bda691dd29060c9331ea87", func := "loop.example/bedstone/laws.FnExactWindowPut", spec := "fnExactWindowPut", unfollowed := true, recurses := true, apart := false, narrowed := true }
def FnExactWindowPutUptoSaid : Prop := fnExactWindowPutUptoRow.holds Try.pinned (OpenSpec.upto fnExactWindowPutSpec)

/-- 'laws.FnExactWindowLast', WHERE WHAT IT READS IS OF BULK AT MOST 1048576: true; the input reads as it did. -/
def fnExactWindowLastUptoRow : OpenClaim := { program := "ytpfhegengmlkmab", sum := "ac2a7ac234a39b7d7f1779b8af8c41fd960606c048bda691dd29060c9331ea87", func := "loop.example/bedstone/laws.FnExactWindowLast", spec := "fnExactWindowLast", unfollowed := true, recurses := true, apart := false, narrowed := true }
def FnExactWindowLastUptoSaid : Prop := fnExactWindowLastUptoRow.holds Try.pinned (OpenSpec.upto fnExactWindowLastSpec)

end Rows
end Go.Proofs.Ytpfhegengmlkmab
