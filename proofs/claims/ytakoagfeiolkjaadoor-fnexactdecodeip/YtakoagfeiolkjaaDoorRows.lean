/-
  NARROWER THAN 'FOR EVERY INPUT', by the rows' own cells (each row's printed sentence says how): FnExactReadQuote: laid · FnExactDecodeIcmp: laid · FnExactDecodeIP: laid.
  DERIVED. THE GIVEN ROWS OF THIS SEAT. 3 by the template 'for every input the law returns true; each argument reads behind the call as it read before'; 0 by the template 'total and deterministic' (their statements: YtakoagfeiolkjaaDoorTotals.lean).
  GIVEN WITH THE SEED: the statements are not yours to turn. If you find one false, say at which input.
  Laid BY PROGRAM, IN A SANDBOX (cutbox-rows.mjs): the forced cells as the released guide's own fill.sh prints them over the translation 2e6bd2c4d5ec599e… (all of the seat's roots in one cut). By AI agents, Wed Nov 11 2026. No macro, syntax, notation, axiom, sorry.
-/
import Derived.Test.YtakoagfeiolkjaaDoorChecked
import GoSem.Claim
import GoSem.ClaimJoined
import GoSem.ClaimMapViews
import Derived.JoinedTies
import Derived.KernelRfl
namespace Go.Proofs.YtakoagfeiolkjaaDoor
/- THE CELL 'sum', in the pinned program and in every row, IS THE sha256 OF THE DUMP (.gsa) THAT YtakoagfeiolkjaaDoorProg.lean LOADS. Nothing in Lean hashes anything: it is a label: what it is worth is what the hold of that sum in a sandbox is worth. -/
noncomputable def Tryd.pinned : Pinned := { name := "ytakoagfeiolkjaadoor", sum := "2e6bd2c4d5ec599e58cfdd2de081bf7eb101972bc010bd3af4b34b968f86645c", checked := Tryd.checked }
namespace Rows
def none {H : Type} : Left H := { results := [], args := [] }

/- WHAT THE LISTED PACKAGE-LEVEL VARIABLES READ AS WHEN THE CALL BEGINS. Each datum BY PROGRAM (the guide's laid-datum.mjs) off the statement by which the dump's own 'gosem.cut.vars' lays the variable. In a bare row this is a premise. The card (YtakoagfeiolkjaaDoorCards.lean) ties it to the program's text. -/
def laid_errors_errorType {H : Type} : DataW H := .iface "internal/reflectlite.rtype" (.agg [.ptr (.lit (.string [101, 114, 114, 111, 114]))])

/-- 'laws.FnExactReadQuote': WHATEVER THE INPUT: true; the input reads as it did. -/
def fnExactReadQuoteSpec : ChangeSpec := { name := "fnExactReadQuote", fn := fun _ => fun
  | [d] => { results := [.lit (.bool true)], args := [d] }
  | _ => none }
def fnExactReadQuoteRow : OpenClaim := { program := "ytakoagfeiolkjaadoor", sum := "2e6bd2c4d5ec599e58cfdd2de081bf7eb101972bc010bd3af4b34b968f86645c", func := "loop.example/g00003/laws.FnExactReadQuote", spec := "fnExactReadQuote", inPlace := ["internal/reflectlite.ValueOf", "(internal/reflectlite.Value).Type", "(internal/reflectlite.Value).IsNil", "internal/reflectlite.TypeOf", "(internal/reflectlite.Value).Elem", "(internal/reflectlite.Value).Set"], unfollowed := true, recurses := true, named := ["errors.errorType"], apart := false, laid := [("errors.errorType", laid_errors_errorType)] }
def FnExactReadQuoteSaid : Prop := fnExactReadQuoteRow.holds Tryd.pinned (OpenSpec.ofChange fnExactReadQuoteSpec)

/-- ITS FALSE NEIGHBOUR: 'it returns false'. Refute it at one input. -/
def fnExactReadQuoteWrong : ChangeSpec := { name := "fnExactReadQuote", fn := fun _ => fun
  | [d] => { results := [.lit (.bool false)], args := [d] }
  | _ => none }
def FnExactReadQuoteWrongFalsely : Prop := fnExactReadQuoteRow.holds Tryd.pinned (OpenSpec.ofChange fnExactReadQuoteWrong)

/-- 'laws.FnExactDecodeIcmp': WHATEVER THE INPUT: true; the input reads as it did. -/
def fnExactDecodeIcmpSpec : ChangeSpec := { name := "fnExactDecodeIcmp", fn := fun _ => fun
  | [d] => { results := [.lit (.bool true)], args := [d] }
  | _ => none }
def fnExactDecodeIcmpRow : OpenClaim := { program := "ytakoagfeiolkjaadoor", sum := "2e6bd2c4d5ec599e58cfdd2de081bf7eb101972bc010bd3af4b34b968f86645c", func := "loop.example/g00003/laws.FnExactDecodeIcmp", spec := "fnExactDecodeIcmp", inPlace := ["internal/reflectlite.ValueOf", "(internal/reflectlite.Value).Type", "(internal/reflectlite.Value).IsNil", "internal/reflectlite.TypeOf", "(internal/reflectlite.Value).Elem", "(internal/reflectlite.Value).Set"], unfollowed := true, recurses := true, named := ["errors.errorType"], apart := false, laid := [("errors.errorType", laid_errors_errorType)] }
def FnExactDecodeIcmpSaid : Prop := fnExactDecodeIcmpRow.holds Tryd.pinned (OpenSpec.ofChange fnExactDecodeIcmpSpec)

/-- ITS FALSE NEIGHBOUR: 'it returns false'. Refute it at one input. -/
def fnExactDecodeIcmpWrong : ChangeSpec := { name := "fnExactDecodeIcmp", fn := fun _ => fun
  | [d] => { results := [.lit (.bool false)], args := [d] }
  | _ => none }
def FnExactDecodeIcmpWrongFalsely : Prop := fnExactDecodeIcmpRow.holds Tryd.pinned (OpenSpec.ofChange fnExactDecodeIcmpWrong)

/-- 'laws.FnExactDecodeIP': WHATEVER THE INPUT: true; the input reads as it did. -/
def fnExactDecodeIPSpec : ChangeSpec := { name := "fnExactDecodeIP", fn := fun _ => fun
  | [d] => { results := [.lit (.bool true)], args := [d] }
  | _ => none }
def fnExactDecodeIPRow : OpenClaim := { program := "ytakoagfeiolkjaadoor", sum := "2e6bd2c4d5ec599e58cfdd2de081bf7eb101972bc010bd3af4b34b968f86645c", func := "loop.example/g00003/laws.FnExactDecodeIP", spec := "fnExactDecodeIP", inPlace := ["internal/reflectlite.ValueOf", "(internal/reflectlite.Value).Type", "(internal/reflectlite.Value).IsNil", "internal/reflectlite.TypeOf", "(internal/reflectlite.Value).Elem", "(internal/reflectlite.Value).Set"], unfollowed := true, recurses := true, named := ["errors.errorType"], apart := false, laid := [("errors.errorType", laid_errors_errorType)] }
def FnExactDecodeIPSaid : Prop := fnExactDecodeIPRow.holds Tryd.pinned (OpenSpec.ofChange fnExactDecodeIPSpec)

/-- ITS FALSE NEIGHBOUR: 'it returns false'. Refute it at one input. -/
def fnExactDecodeIPWrong : ChangeSpec := { name := "fnExactDecodeIP", fn := fun _ => fun
  | [d] => { results := [.lit (.bool false)], args := [d] }
  | _ => none }
def FnExactDecodeIPWrongFalsely : Prop := fnExactDecodeIPRow.holds Tryd.pinned (OpenSpec.ofChange fnExactDecodeIPWrong)

/- THE SECOND FORM. 'bulk': how many values and letters a reading holds, each counted each time it is reached (what is shared counts as often as it is met; a slice's spare places count too). A statement '..UptoSaid' is the law's where the arguments, and the package variables that the reading takes, are together of bulk at most 1048576: NARROWER than '..Said'. Prove '..Said' where nothing that the law and all that it calls make is longer than what came in: it says more and counts as full. Else prove '..UptoSaid'. A law counts once. -/
mutual
def uptoBulk {H : Type} : DataW H → Nat
  | .lit (.string bytes) => bytes.length + 1
  | .lit _ => 1
  | .nil => 1
  | .ptr d => uptoBulk d + 1
  | .slice elems spare => uptoBulkAll elems + uptoBulkAll spare + 1
  | .agg parts => uptoBulkAll parts + 1
  | .iface _ d => uptoBulk d + 1
  | .map entries => uptoBulkEntries entries + 1
  | .held _ => 1
def uptoBulkAll {H : Type} : List (DataW H) → Nat
  | [] => 0
  | d :: r => uptoBulk d + uptoBulkAll r
def uptoBulkEntries {H : Type} : List (Lit × DataW H) → Nat
  | [] => 0
  | x :: r => uptoBulkEntry x + uptoBulkEntries r
def uptoBulkEntry {H : Type} : Lit × DataW H → Nat
  | (.string bytes, d) => bytes.length + uptoBulk d + 1
  | (_, d) => uptoBulk d + 1
 end
def uptoSmall : (H : Type) → List (DataW H) → Bool := fun _ ds => decide (uptoBulkAll ds ≤ 1048576)
def OpenSpec.upto (s : _root_.Go.ChangeSpec) : _root_.Go.OpenSpec := { _root_.Go.OpenSpec.ofChange s with cond := some uptoSmall }

/-- 'laws.FnExactReadQuote', WHERE WHAT IT READS IS OF BULK AT MOST 1048576: true; the input reads as it did. -/
def fnExactReadQuoteUptoRow : OpenClaim := { program := "ytakoagfeiolkjaadoor", sum := "2e6bd2c4d5ec599e58cfdd2de081bf7eb101972bc010bd3af4b34b968f86645c", func := "loop.example/g00003/laws.FnExactReadQuote", spec := "fnExactReadQuote", inPlace := ["internal/reflectlite.ValueOf", "(internal/reflectlite.Value).Type", "(internal/reflectlite.Value).IsNil", "internal/reflectlite.TypeOf", "(internal/reflectlite.Value).Elem", "(internal/reflectlite.Value).Set"], unfollowed := true, recurses := true, named := ["errors.errorType"], apart := false, laid := [("errors.errorType", laid_errors_errorType)], narrowed := true }
def FnExactReadQuoteUptoSaid : Prop := fnExactReadQuoteUptoRow.holds Tryd.pinned (OpenSpec.upto fnExactReadQuoteSpec)

/-- 'laws.FnExactDecodeIcmp', WHERE WHAT IT READS IS OF BULK AT MOST 1048576: true; the input reads as it did. -/
def fnExactDecodeIcmpUptoRow : OpenClaim := { program := "ytakoagfeiolkjaadoor", sum := "2e6bd2c4d5ec599e58cfdd2de081bf7eb101972bc010bd3af4b34b968f86645c", func := "loop.example/g00003/laws.FnExactDecodeIcmp", spec := "fnExactDecodeIcmp", inPlace := ["internal/reflectlite.ValueOf", "(internal/reflectlite.Value).Type", "(internal/reflectlite.Value).IsNil", "internal/reflectlite.TypeOf", "(internal/reflectlite.Value).Elem", "(internal/reflectlite.Value).Set"], unfollowed := true, recurses := true, named := ["errors.errorType"], apart := false, laid := [("errors.errorType", laid_errors_errorType)], narrowed := true }
def FnExactDecodeIcmpUptoSaid : Prop := fnExactDecodeIcmpUptoRow.holds Tryd.pinned (OpenSpec.upto fnExactDecodeIcmpSpec)

/-- 'laws.FnExactDecodeIP', WHERE WHAT IT READS IS OF BULK AT MOST 1048576: true; the input reads as it did. -/
def fnExactDecodeIPUptoRow : OpenClaim := { program := "ytakoagfeiolkjaadoor", sum := "2e6bd2c4d5ec599e58cfdd2de081bf7eb101972bc010bd3af4b34b968f86645c", func := "loop.example/g00003/laws.FnExactDecodeIP", spec := "fnExactDecodeIP", inPlace := ["internal/reflectlite.ValueOf", "(internal/reflectlite.Value).Type", "(internal/reflectlite.Value).IsNil", "internal/reflectlite.TypeOf", "(internal/reflectlite.Value).Elem", "(internal/reflectlite.Value).Set"], unfollowed := true, recurses := true, named := ["errors.errorType"], apart := false, laid := [("errors.errorType", laid_errors_errorType)], narrowed := true }
def FnExactDecodeIPUptoSaid : Prop := fnExactDecodeIPUptoRow.holds Tryd.pinned (OpenSpec.upto fnExactDecodeIPSpec)

end Rows
end Go.Proofs.YtakoagfeiolkjaaDoor
