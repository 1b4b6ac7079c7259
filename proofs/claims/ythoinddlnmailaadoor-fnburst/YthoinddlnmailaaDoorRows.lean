/-
  NARROWER THAN 'FOR EVERY INPUT', by the rows' own cells (each row's printed sentence says how): FnBurst: laid · FnExactDecodeFrame: laid · FnExactDecodeArp: laid · FnExactDecodeIP: laid · FnExactEncodeArp: laid · FnExactEncodeFrame: laid.
  DERIVED. THE GIVEN ROWS OF THIS SEAT. 6 by the template 'for every input the law returns true; each argument reads behind the call as it read before'; 0 by the template 'total and deterministic' (their statements: YthoinddlnmailaaDoorTotals.lean).
  GIVEN WITH THE SEED: the statements are not yours to turn. If you find one false, say at which input.
  Laid BY PROGRAM, IN A SANDBOX (cutbox-rows.mjs): the forced cells as the released guide's own fill.sh prints them over the translation 05f4aa6cf181d650… (all of the seat's roots in one cut). By AI agents, Wed Nov 11 2026. No macro, syntax, notation, axiom, sorry.
-/
import Derived.Test.YthoinddlnmailaaDoorChecked
import GoSem.Claim
import GoSem.ClaimJoined
import GoSem.ClaimMapViews
import Derived.JoinedTies
import Derived.KernelRfl
namespace Go.Proofs.YthoinddlnmailaaDoor
/- THE CELL 'sum', in the pinned program and in every row, IS THE sha256 OF THE DUMP (.gsa) THAT YthoinddlnmailaaDoorProg.lean LOADS. Nothing in Lean hashes anything: it is a label: what it is worth is what the hold of that sum in a sandbox is worth. -/
noncomputable def Tryd.pinned : Pinned := { name := "ythoinddlnmailaadoor", sum := "05f4aa6cf181d6506de43e53d098cf8169385ed7fd8588d94256d7e67b9c54a2", checked := Tryd.checked }
namespace Rows
def none {H : Type} : Left H := { results := [], args := [] }

/- WHAT THE LISTED PACKAGE-LEVEL VARIABLES READ AS WHEN THE CALL BEGINS. Each datum BY PROGRAM (the guide's laid-datum.mjs) off the statement by which the dump's own 'gosem.cut.vars' lays the variable. In a bare row this is a premise. The card (YthoinddlnmailaaDoorCards.lean) ties it to the program's text. -/
def laid_errors_errorType {H : Type} : DataW H := .iface "internal/reflectlite.rtype" (.agg [.ptr (.lit (.string [101, 114, 114, 111, 114]))])

/-- 'laws.FnBurst': WHATEVER THE INPUT: true; the input reads as it did. -/
def fnBurstSpec : ChangeSpec := { name := "fnBurst", fn := fun _ => fun
  | [d] => { results := [.lit (.bool true)], args := [d] }
  | _ => none }
def fnBurstRow : OpenClaim := { program := "ythoinddlnmailaadoor", sum := "05f4aa6cf181d6506de43e53d098cf8169385ed7fd8588d94256d7e67b9c54a2", func := "loop.example/g00003/laws.FnBurst", spec := "fnBurst", inPlace := ["internal/reflectlite.ValueOf", "(internal/reflectlite.Value).Type", "(internal/reflectlite.Value).IsNil", "internal/reflectlite.TypeOf", "(internal/reflectlite.Value).Elem", "(internal/reflectlite.Value).Set"], unfollowed := true, recurses := true, named := ["errors.errorType"], apart := false, laid := [("errors.errorType", laid_errors_errorType)] }
def FnBurstSaid : Prop := fnBurstRow.holds Tryd.pinned (OpenSpec.ofChange fnBurstSpec)

/-- ITS FALSE NEIGHBOUR: 'it returns false'. Refute it at one input. -/
def fnBurstWrong : ChangeSpec := { name := "fnBurst", fn := fun _ => fun
  | [d] => { results := [.lit (.bool false)], args := [d] }
  | _ => none }
def FnBurstWrongFalsely : Prop := fnBurstRow.holds Tryd.pinned (OpenSpec.ofChange fnBurstWrong)

/-- 'laws.FnExactDecodeFrame': WHATEVER THE INPUT: true; the input reads as it did. -/
def fnExactDecodeFrameSpec : ChangeSpec := { name := "fnExactDecodeFrame", fn := fun _ => fun
  | [d] => { results := [.lit (.bool true)], args := [d] }
  | _ => none }
def fnExactDecodeFrameRow : OpenClaim := { program := "ythoinddlnmailaadoor", sum := "05f4aa6cf181d6506de43e53d098cf8169385ed7fd8588d94256d7e67b9c54a2", func := "loop.example/g00003/laws.FnExactDecodeFrame", spec := "fnExactDecodeFrame", inPlace := ["internal/reflectlite.ValueOf", "(internal/reflectlite.Value).Type", "(internal/reflectlite.Value).IsNil", "internal/reflectlite.TypeOf", "(internal/reflectlite.Value).Elem", "(internal/reflectlite.Value).Set"], unfollowed := true, recurses := true, named := ["errors.errorType"], apart := false, laid := [("errors.errorType", laid_errors_errorType)] }
def FnExactDecodeFrameSaid : Prop := fnExactDecodeFrameRow.holds Tryd.pinned (OpenSpec.ofChange fnExactDecodeFrameSpec)

/-- ITS FALSE NEIGHBOUR: 'it returns false'. Refute it at one input. -/
def fnExactDecodeFrameWrong : ChangeSpec := { name := "fnExactDecodeFrame", fn := fun _ => fun
  | [d] => { results := [.lit (.bool false)], args := [d] }
  | _ => none }
def FnExactDecodeFrameWrongFalsely : Prop := fnExactDecodeFrameRow.holds Tryd.pinned (OpenSpec.ofChange fnExactDecodeFrameWrong)

/-- 'laws.FnExactDecodeArp': WHATEVER THE INPUT: true; the input reads as it did. -/
def fnExactDecodeArpSpec : ChangeSpec := { name := "fnExactDecodeArp", fn := fun _ => fun
  | [d] => { results := [.lit (.bool true)], args := [d] }
  | _ => none }
def fnExactDecodeArpRow : OpenClaim := { program := "ythoinddlnmailaadoor", sum := "05f4aa6cf181d6506de43e53d098cf8169385ed7fd8588d94256d7e67b9c54a2", func := "loop.example/g00003/laws.FnExactDecodeArp", spec := "fnExactDecodeArp", inPlace := ["internal/reflectlite.ValueOf", "(internal/reflectlite.Value).Type", "(internal/reflectlite.Value).IsNil", "internal/reflectlite.TypeOf", "(internal/reflectlite.Value).Elem", "(internal/reflectlite.Value).Set"], unfollowed := true, recurses := true, named := ["errors.errorType"], apart := false, laid := [("errors.errorType", laid_errors_errorType)] }
def FnExactDecodeArpSaid : Prop := fnExactDecodeArpRow.holds Tryd.pinned (OpenSpec.ofChange fnExactDecodeArpSpec)

/-- ITS FALSE NEIGHBOUR: 'it returns false'. Refute it at one input. -/
def fnExactDecodeArpWrong : ChangeSpec := { name := "fnExactDecodeArp", fn := fun _ => fun
  | [d] => { results := [.lit (.bool false)], args := [d] }
  | _ => none }
def FnExactDecodeArpWrongFalsely : Prop := fnExactDecodeArpRow.holds Tryd.pinned (OpenSpec.ofChange fnExactDecodeArpWrong)

/-- 'laws.FnExactDecodeIP': WHATEVER THE INPUT: true; the input reads as it did. -/
def fnExactDecodeIPSpec : ChangeSpec := { name := "fnExactDecodeIP", fn := fun _ => fun
  | [d] => { results := [.lit (.bool true)], args := [d] }
  | _ => none }
def fnExactDecodeIPRow : OpenClaim := { program := "ythoinddlnmailaadoor", sum := "05f4aa6cf181d6506de43e53d098cf8169385ed7fd8588d94256d7e67b9c54a2", func := "loop.example/g00003/laws.FnExactDecodeIP", spec := "fnExactDecodeIP", inPlace := ["internal/reflectlite.ValueOf", "(internal/reflectlite.Value).Type", "(internal/reflectlite.Value).IsNil", "internal/reflectlite.TypeOf", "(internal/reflectlite.Value).Elem", "(internal/reflectlite.Value).Set"], unfollowed := true, recurses := true, named := ["errors.errorType"], apart := false, laid := [("errors.errorType", laid_errors_errorType)] }
def FnExactDecodeIPSaid : Prop := fnExactDecodeIPRow.holds Tryd.pinned (OpenSpec.ofChange fnExactDecodeIPSpec)

/-- ITS FALSE NEIGHBOUR: 'it returns false'. Refute it at one input. -/
def fnExactDecodeIPWrong : ChangeSpec := { name := "fnExactDecodeIP", fn := fun _ => fun
  | [d] => { results := [.lit (.bool false)], args := [d] }
  | _ => none }
def FnExactDecodeIPWrongFalsely : Prop := fnExactDecodeIPRow.holds Tryd.pinned (OpenSpec.ofChange fnExactDecodeIPWrong)

/-- 'laws.FnExactEncodeArp': WHATEVER THE INPUT: true; the input reads as it did. -/
def fnExactEncodeArpSpec : ChangeSpec := { name := "fnExactEncodeArp", fn := fun _ => fun
  | [d] => { results := [.lit (.bool true)], args := [d] }
  | _ => none }
def fnExactEncodeArpRow : OpenClaim := { program := "ythoinddlnmailaadoor", sum := "05f4aa6cf181d6506de43e53d098cf8169385ed7fd8588d94256d7e67b9c54a2", func := "loop.example/g00003/laws.FnExactEncodeArp", spec := "fnExactEncodeArp", inPlace := ["internal/reflectlite.ValueOf", "(internal/reflectlite.Value).Type", "(internal/reflectlite.Value).IsNil", "internal/reflectlite.TypeOf", "(internal/reflectlite.Value).Elem", "(internal/reflectlite.Value).Set"], unfollowed := true, recurses := true, named := ["errors.errorType"], apart := false, laid := [("errors.errorType", laid_errors_errorType)] }
def FnExactEncodeArpSaid : Prop := fnExactEncodeArpRow.holds Tryd.pinned (OpenSpec.ofChange fnExactEncodeArpSpec)

/-- ITS FALSE NEIGHBOUR: 'it returns false'. Refute it at one input. -/
def fnExactEncodeArpWrong : ChangeSpec := { name := "fnExactEncodeArp", fn := fun _ => fun
  | [d] => { results := [.lit (.bool false)], args := [d] }
  | _ => none }
def FnExactEncodeArpWrongFalsely : Prop := fnExactEncodeArpRow.holds Tryd.pinned (OpenSpec.ofChange fnExactEncodeArpWrong)

/-- 'laws.FnExactEncodeFrame': WHATEVER THE INPUT: true; the input reads as it did. -/
def fnExactEncodeFrameSpec : ChangeSpec := { name := "fnExactEncodeFrame", fn := fun _ => fun
  | [d] => { results := [.lit (.bool true)], args := [d] }
  | _ => none }
def fnExactEncodeFrameRow : OpenClaim := { program := "ythoinddlnmailaadoor", sum := "05f4aa6cf181d6506de43e53d098cf8169385ed7fd8588d94256d7e67b9c54a2", func := "loop.example/g00003/laws.FnExactEncodeFrame", spec := "fnExactEncodeFrame", inPlace := ["internal/reflectlite.ValueOf", "(internal/reflectlite.Value).Type", "(internal/reflectlite.Value).IsNil", "internal/reflectlite.TypeOf", "(internal/reflectlite.Value).Elem", "(internal/reflectlite.Value).Set"], unfollowed := true, recurses := true, named := ["errors.errorType"], apart := false, laid := [("errors.errorType", laid_errors_errorType)] }
def FnExactEncodeFrameSaid : Prop := fnExactEncodeFrameRow.holds Tryd.pinned (OpenSpec.ofChange fnExactEncodeFrameSpec)

/-- ITS FALSE NEIGHBOUR: 'it returns false'. Refute it at one input. -/
def fnExactEncodeFrameWrong : ChangeSpec := { name := "fnExactEncodeFrame", fn := fun _ => fun
  | [d] => { results := [.lit (.bool false)], args := [d] }
  | _ => none }
def FnExactEncodeFrameWrongFalsely : Prop := fnExactEncodeFrameRow.holds Tryd.pinned (OpenSpec.ofChange fnExactEncodeFrameWrong)

/- THE SECOND FORM. 'bulk': how many values and letters a reading holds, each counted each time it is reached (what is shared counts as often as it is met; a slice's spare places count too). A statement '..UptoSaid' is the law's where the arguments, and the package variables that the reading takes, are together of bulk at most 1048576: NARROWER than '..Said'. Prove '..Said' where nothing that the law and all that it calls make is longer than what came in: it says more and counts as full. Else prove '..UptoSaid'. A law counts once. -/
mutual
def uptoBulk {H : Type} : DataW H → Nat
  | .lit (.string bytes) => bytes.length + 1
  | .lit _ => 1
  | .nil => 1
  | .ptr d => uptoBulk d + 1
  | .slice elems spare => uptoBulkAll elems + uptoBulkAll spare + 1
  | .agg parts => uptoBulkAll parts + 1
  | .iface _ d => uptoBulk d + 1
  | .map entries => uptoBulkEntries entries + 1
  | .held _ => 1
def uptoBulkAll {H : Type} : List (DataW H) → Nat
  | [] => 0
  | d :: r => uptoBulk d + uptoBulkAll r
def uptoBulkEntries {H : Type} : List (Lit × DataW H) → Nat
  | [] => 0
  | x :: r => uptoBulkEntry x + uptoBulkEntries r
def uptoBulkEntry {H : Type} : Lit × DataW H → Nat
  | (.string bytes, d) => bytes.length + uptoBulk d + 1
  | (_, d) => uptoBulk d + 1
 end
def uptoSmall : (H : Type) → List (DataW H) → Bool := fun _ ds => decide (uptoBulkAll ds ≤ 1048576)
def OpenSpec.upto (s : _root_.Go.ChangeSpec) : _root_.Go.OpenSpec := { _root_.Go.OpenSpec.ofChange s with cond := some uptoSmall }

/-- 'laws.FnBurst', WHERE WHAT IT READS IS OF BULK AT MOST 1048576: true; the input reads as it did. -/
def fnBurstUptoRow : OpenClaim := { program := "ythoinddlnmailaadoor", sum := "05f4aa6cf181d6506de43e53d098cf8169385ed7fd8588d94256d7e67b9c54a2", func := "loop.example/g00003/laws.FnBurst", spec := "fnBurst", inPlace := ["internal/reflectlite.ValueOf", "(internal/reflectlite.Value).Type", "(internal/reflectlite.Value).IsNil", "internal/reflectlite.TypeOf", "(internal/reflectlite.Value).Elem", "(internal/reflectlite.Value).Set"], unfollowed := true, recurses := true, named := ["errors.errorType"], apart := false, laid := [("errors.errorType", laid_errors_errorType)], narrowed := true }
def FnBurstUptoSaid : Prop := fnBurstUptoRow.holds Tryd.pinned (OpenSpec.upto fnBurstSpec)

/-- 'laws.FnExactDecodeFrame', WHERE WHAT IT READS IS OF BULK AT MOST 1048576: true; the input reads as it did. -/
def fnExactDecodeFrameUptoRow : OpenClaim := { program := "ythoinddlnmailaadoor", sum := "05f4aa6cf181d6506de43e53d098cf8169385ed7fd8588d94256d7e67b9c54a2", func := "loop.example/g00003/laws.FnExactDecodeFrame", spec := "fnExactDecodeFrame", inPlace := ["internal/reflectlite.ValueOf", "(internal/reflectlite.Value).Type", "(internal/reflectlite.Value).IsNil", "internal/reflectlite.TypeOf", "(internal/reflectlite.Value).Elem", "(internal/reflectlite.Value).Set"], unfollowed := true, recurses := true, named := ["errors.errorType"], apart := false, laid := [("errors.errorType", laid_errors_errorType)], narrowed := true }
def FnExactDecodeFrameUptoSaid : Prop := fnExactDecodeFrameUptoRow.holds Tryd.pinned (OpenSpec.upto fnExactDecodeFrameSpec)

/-- 'laws.FnExactDecodeArp', WHERE WHAT IT READS IS OF BULK AT MOST 1048576: true; the input reads as it did. -/
def fnExactDecodeArpUptoRow : OpenClaim := { program := "ythoinddlnmailaadoor", sum := "05f4aa6cf181d6506de43e53d098cf8169385ed7fd8588d94256d7e67b9c54a2", func := "loop.example/g00003/laws.FnExactDecodeArp", spec := "fnExactDecodeArp", inPlace := ["internal/reflectlite.ValueOf", "(internal/reflectlite.Value).Type", "(internal/reflectlite.Value).IsNil", "internal/reflectlite.TypeOf", "(internal/reflectlite.Value).Elem", "(internal/reflectlite.Value).Set"], unfollowed := true, recurses := true, named := ["errors.errorType"], apart := false, laid := [("errors.errorType", laid_errors_errorType)], narrowed := true }
def FnExactDecodeArpUptoSaid : Prop := fnExactDecodeArpUptoRow.holds Tryd.pinned (OpenSpec.upto fnExactDecodeArpSpec)

/-- 'laws.FnExactDecodeIP', WHERE WHAT IT READS IS OF BULK AT MOST 1048576: true; the input reads as it did. -/
def fnExactDecodeIPUptoRow : OpenClaim := { program := "ythoinddlnmailaadoor", sum := "05f4aa6cf181d6506de43e53d098cf8169385ed7fd8588d94256d7e67b9c54a2", func := "loop.example/g00003/laws.FnExactDecodeIP", spec := "fnExactDecodeIP", inPlace := ["internal/reflectlite.ValueOf", "(internal/reflectlite.Value).Type", "(internal/reflectlite.Value).IsNil", "internal/reflectlite.TypeOf", "(internal/reflectlite.Value).Elem", "(internal/reflectlite.Value).Set"], unfollowed := true, recurses := true, named := ["errors.errorType"], apart := false, laid := [("errors.errorType", laid_errors_errorType)], narrowed := true }
def FnExactDecodeIPUptoSaid : Prop := fnExactDecodeIPUptoRow.holds Tryd.pinned (OpenSpec.upto fnExactDecodeIPSpec)

/-- 'laws.FnExactEncodeArp', WHERE WHAT IT READS IS OF BULK AT MOST 1048576: true; the input reads as it did. -/
def fnExactEncodeArpUptoRow : OpenClaim := { program := "ythoinddlnmailaadoor", sum := "05f4aa6cf181d6506de43e53d098cf8169385ed7fd8588d94256d7e67b9c54a2", func := "loop.example/g00003/laws.FnExactEncodeArp", spec := "fnExactEncodeArp", inPlace := ["internal/reflectlite.ValueOf", "(internal/reflectlite.Value).Type", "(internal/reflectlite.Value).IsNil", "internal/reflectlite.TypeOf", "(internal/reflectlite.Value).Elem", "(internal/reflectlite.Value).Set"], unfollowed := true, recurses := true, named := ["errors.errorType"], apart := false, laid := [("errors.errorType", laid_errors_errorType)], narrowed := true }
def FnExactEncodeArpUptoSaid : Prop := fnExactEncodeArpUptoRow.holds Tryd.pinned (OpenSpec.upto fnExactEncodeArpSpec)

/-- 'laws.FnExactEncodeFrame', WHERE WHAT IT READS IS OF BULK AT MOST 1048576: true; the input reads as it did. -/
def fnExactEncodeFrameUptoRow : OpenClaim := { program := "ythoinddlnmailaadoor", sum := "05f4aa6cf181d6506de43e53d098cf8169385ed7fd8588d94256d7e67b9c54a2", func := "loop.example/g00003/laws.FnExactEncodeFrame", spec := "fnExactEncodeFrame", inPlace := ["internal/reflectlite.ValueOf", "(internal/reflectlite.Value).Type", "(internal/reflectlite.Value).IsNil", "internal/reflectlite.TypeOf", "(internal/reflectlite.Value).Elem", "(internal/reflectlite.Value).Set"], unfollowed := true, recurses := true, named := ["errors.errorType"], apart := false, laid := [("errors.errorType", laid_errors_errorType)], narrowed := true }
def FnExactEncodeFrameUptoSaid : Prop := fnExactEncodeFrameUptoRow.holds Tryd.pinned (OpenSpec.upto fnExactEncodeFrameSpec)

end Rows
end Go.Proofs.YthoinddlnmailaaDoor
