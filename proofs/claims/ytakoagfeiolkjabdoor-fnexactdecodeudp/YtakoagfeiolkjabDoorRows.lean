/-
  NARROWER THAN 'FOR EVERY INPUT', by the rows' own cells (each row's printed sentence says how): FnExactEncodeIcmp: laid · FnExactDecodeUdp: laid · FnExactEncodeIP: laid · FnExactEncodeUdp: laid · FnExactComplain: laid.
  DERIVED. THE GIVEN ROWS OF THIS SEAT. 5 by the template 'for every input the law returns true; each argument reads behind the call as it read before'; 0 by the template 'total and deterministic' (their statements: YtakoagfeiolkjabDoorTotals.lean).
  GIVEN WITH THE SEED: the statements are not yours to turn. If you find one false, say at which input.
  Laid BY PROGRAM, IN A SANDBOX (cutbox-rows.mjs): the forced cells as the released guide's own fill.sh prints them over the translation 892b6e92bb561b73… (all of the seat's roots in one cut). By AI agents, Wed Nov 11 2026. No macro, syntax, notation, axiom, sorry.
-/
import Derived.Test.YtakoagfeiolkjabDoorChecked
import GoSem.Claim
import GoSem.ClaimJoined
import GoSem.ClaimMapViews
import Derived.JoinedTies
import Derived.KernelRfl
namespace Go.Proofs.YtakoagfeiolkjabDoor
/- THE CELL 'sum', in the pinned program and in every row, IS THE sha256 OF THE DUMP (.gsa) THAT YtakoagfeiolkjabDoorProg.lean LOADS. Nothing in Lean hashes anything: it is a label: what it is worth is what the hold of that sum in a sandbox is worth. -/
noncomputable def Tryd.pinned : Pinned := { name := "ytakoagfeiolkjabdoor", sum := "892b6e92bb561b73f5be30a4b4e10f8012f68928805135078bcf86a71178fa0d", checked := Tryd.checked }
namespace Rows
def none {H : Type} : Left H := { results := [], args := [] }

/- WHAT THE LISTED PACKAGE-LEVEL VARIABLES READ AS WHEN THE CALL BEGINS. Each datum BY PROGRAM (the guide's laid-datum.mjs) off the statement by which the dump's own 'gosem.cut.vars' lays the variable. In a bare row this is a premise. The card (YtakoagfeiolkjabDoorCards.lean) ties it to the program's text. -/
def laid_errors_errorType {H : Type} : DataW H := .iface "internal/reflectlite.rtype" (.agg [.ptr (.lit (.string [101, 114, 114, 111, 114]))])

/-- 'laws.FnExactEncodeIcmp': WHATEVER THE INPUT: true; the input reads as it did. -/
def fnExactEncodeIcmpSpec : ChangeSpec := { name := "fnExactEncodeIcmp", fn := fun _ => fun
  | [d] => { results := [.lit (.bool true)], args := [d] }
  | _ => none }
def fnExactEncodeIcmpRow : OpenClaim := { program := "ytakoagfeiolkjabdoor", sum := "892b6e92bb561b73f5be30a4b4e10f8012f68928805135078bcf86a71178fa0d", func := "loop.example/g00003/laws.FnExactEncodeIcmp", spec := "fnExactEncodeIcmp", inPlace := ["internal/reflectlite.ValueOf", "(internal/reflectlite.Value).Type", "(internal/reflectlite.Value).IsNil", "internal/reflectlite.TypeOf", "(internal/reflectlite.Value).Elem", "(internal/reflectlite.Value).Set"], unfollowed := true, recurses := true, named := ["errors.errorType"], apart := false, laid := [("errors.errorType", laid_errors_errorType)] }
def FnExactEncodeIcmpSaid : Prop := fnExactEncodeIcmpRow.holds Tryd.pinned (OpenSpec.ofChange fnExactEncodeIcmpSpec)

/-- ITS FALSE NEIGHBOUR: 'it returns false'. Refute it at one input. -/
def fnExactEncodeIcmpWrong : ChangeSpec := { name := "fnExactEncodeIcmp", fn := fun _ => fun
  | [d] => { results := [.lit (.bool false)], args := [d] }
  | _ => none }
def FnExactEncodeIcmpWrongFalsely : Prop := fnExactEncodeIcmpRow.holds Tryd.pinned (OpenSpec.ofChange fnExactEncodeIcmpWrong)

/-- 'laws.FnExactDecodeUdp': WHATEVER THE INPUT: true; the input reads as it did. -/
def fnExactDecodeUdpSpec : ChangeSpec := { name := "fnExactDecodeUdp", fn := fun _ => fun
  | [d1, d2, d3] => { results := [.lit (.bool true)], args := [d1, d2, d3] }
  | _ => none }
def fnExactDecodeUdpRow : OpenClaim := { program := "ytakoagfeiolkjabdoor", sum := "892b6e92bb561b73f5be30a4b4e10f8012f68928805135078bcf86a71178fa0d", func := "loop.example/g00003/laws.FnExactDecodeUdp", spec := "fnExactDecodeUdp", inPlace := ["internal/reflectlite.ValueOf", "(internal/reflectlite.Value).Type", "(internal/reflectlite.Value).IsNil", "internal/reflectlite.TypeOf", "(internal/reflectlite.Value).Elem", "(internal/reflectlite.Value).Set"], unfollowed := true, recurses := true, named := ["errors.errorType"], apart := false, laid := [("errors.errorType", laid_errors_errorType)] }
def FnExactDecodeUdpSaid : Prop := fnExactDecodeUdpRow.holds Tryd.pinned (OpenSpec.ofChange fnExactDecodeUdpSpec)

/-- ITS FALSE NEIGHBOUR: 'it returns false'. Refute it at one input. -/
def fnExactDecodeUdpWrong : ChangeSpec := { name := "fnExactDecodeUdp", fn := fun _ => fun
  | [d1, d2, d3] => { results := [.lit (.bool false)], args := [d1, d2, d3] }
  | _ => none }
def FnExactDecodeUdpWrongFalsely : Prop := fnExactDecodeUdpRow.holds Tryd.pinned (OpenSpec.ofChange fnExactDecodeUdpWrong)

/-- 'laws.FnExactEncodeIP': WHATEVER THE INPUT: true; the input reads as it did. -/
def fnExactEncodeIPSpec : ChangeSpec := { name := "fnExactEncodeIP", fn := fun _ => fun
  | [d] => { results := [.lit (.bool true)], args := [d] }
  | _ => none }
def fnExactEncodeIPRow : OpenClaim := { program := "ytakoagfeiolkjabdoor", sum := "892b6e92bb561b73f5be30a4b4e10f8012f68928805135078bcf86a71178fa0d", func := "loop.example/g00003/laws.FnExactEncodeIP", spec := "fnExactEncodeIP", inPlace := ["internal/reflectlite.ValueOf", "(internal/reflectlite.Value).Type", "(internal/reflectlite.Value).IsNil", "internal/reflectlite.TypeOf", "(internal/reflectlite.Value).Elem", "(internal/reflectlite.Value).Set"], unfollowed := true, recurses := true, named := ["errors.errorType"], apart := false, laid := [("errors.errorType", laid_errors_errorType)] }
def FnExactEncodeIPSaid : Prop := fnExactEncodeIPRow.holds Tryd.pinned (OpenSpec.ofChange fnExactEncodeIPSpec)

/-- ITS FALSE NEIGHBOUR: 'it returns false'. Refute it at one input. -/
def fnExactEncodeIPWrong : ChangeSpec := { name := "fnExactEncodeIP", fn := fun _ => fun
  | [d] => { results := [.lit (.bool false)], args := [d] }
  | _ => none }
def FnExactEncodeIPWrongFalsely : Prop := fnExactEncodeIPRow.holds Tryd.pinned (OpenSpec.ofChange fnExactEncodeIPWrong)

/-- 'laws.FnExactEncodeUdp': WHATEVER THE INPUT: true; the input reads as it did. -/
def fnExactEncodeUdpSpec : ChangeSpec := { name := "fnExactEncodeUdp", fn := fun _ => fun
  | [d1, d2, d3] => { results := [.lit (.bool true)], args := [d1, d2, d3] }
  | _ => none }
def fnExactEncodeUdpRow : OpenClaim := { program := "ytakoagfeiolkjabdoor", sum := "892b6e92bb561b73f5be30a4b4e10f8012f68928805135078bcf86a71178fa0d", func := "loop.example/g00003/laws.FnExactEncodeUdp", spec := "fnExactEncodeUdp", inPlace := ["internal/reflectlite.ValueOf", "(internal/reflectlite.Value).Type", "(internal/reflectlite.Value).IsNil", "internal/reflectlite.TypeOf", "(internal/reflectlite.Value).Elem", "(internal/reflectlite.Value).Set"], unfollowed := true, recurses := true, named := ["errors.errorType"], apart := false, laid := [("errors.errorType", laid_errors_errorType)] }
def FnExactEncodeUdpSaid : Prop := fnExactEncodeUdpRow.holds Tryd.pinned (OpenSpec.ofChange fnExactEncodeUdpSpec)

/-- ITS FALSE NEIGHBOUR: 'it returns false'. Refute it at one input. -/
def fnExactEncodeUdpWrong : ChangeSpec := { name := "fnExactEncodeUdp", fn := fun _ => fun
  | [d1, d2, d3] => { results := [.lit (.bool false)], args := [d1, d2, d3] }
  | _ => none }
def FnExactEncodeUdpWrongFalsely : Prop := fnExactEncodeUdpRow.holds Tryd.pinned (OpenSpec.ofChange fnExactEncodeUdpWrong)

/-- 'laws.FnExactComplain': WHATEVER THE INPUT: true; the input reads as it did. -/
def fnExactComplainSpec : ChangeSpec := { name := "fnExactComplain", fn := fun _ => fun
  | [d1, d2, d3, d4, d5] => { results := [.lit (.bool true)], args := [d1, d2, d3, d4, d5] }
  | _ => none }
def fnExactComplainRow : OpenClaim := { program := "ytakoagfeiolkjabdoor", sum := "892b6e92bb561b73f5be30a4b4e10f8012f68928805135078bcf86a71178fa0d", func := "loop.example/g00003/laws.FnExactComplain", spec := "fnExactComplain", inPlace := ["internal/reflectlite.ValueOf", "(internal/reflectlite.Value).Type", "(internal/reflectlite.Value).IsNil", "internal/reflectlite.TypeOf", "(internal/reflectlite.Value).Elem", "(internal/reflectlite.Value).Set"], unfollowed := true, recurses := true, named := ["errors.errorType"], apart := false, laid := [("errors.errorType", laid_errors_errorType)] }
def FnExactComplainSaid : Prop := fnExactComplainRow.holds Tryd.pinned (OpenSpec.ofChange fnExactComplainSpec)

/-- ITS FALSE NEIGHBOUR: 'it returns false'. Refute it at one input. -/
def fnExactComplainWrong : ChangeSpec := { name := "fnExactComplain", fn := fun _ => fun
  | [d1, d2, d3, d4, d5] => { results := [.lit (.bool false)], args := [d1, d2, d3, d4, d5] }
  | _ => none }
def FnExactComplainWrongFalsely : Prop := fnExactComplainRow.holds Tryd.pinned (OpenSpec.ofChange fnExactComplainWrong)

/- THE SECOND FORM. 'bulk': how many values and letters a reading holds, each counted each time it is reached (what is shared counts as often as it is met; a slice's spare places count too). A statement '..UptoSaid' is the law's where the arguments, and the package variables that the reading takes, are together of bulk at most 1048576: NARROWER than '..Said'. Prove '..Said' where nothing that the law and all that it calls make is longer than what came in: it says more and counts as full. Else prove '..UptoSaid'. A law counts once. -/
mutual
def uptoBulk {H : Type} : DataW H → Nat
  | .lit (.string bytes) => bytes.length + 1
  | .lit _ => 1
  | .nil => 1
  | .ptr d => uptoBulk d + 1
  | .slice elems spare => uptoBulkAll elems + uptoBulkAll spare + 1
  | .agg parts => uptoBulkAll parts + 1
  | .iface _ d => uptoBulk d + 1
  | .map entries => uptoBulkEntries entries + 1
  | .held _ => 1
def uptoBulkAll {H : Type} : List (DataW H) → Nat
  | [] => 0
  | d :: r => uptoBulk d + uptoBulkAll r
def uptoBulkEntries {H : Type} : List (Lit × DataW H) → Nat
  | [] => 0
  | x :: r => uptoBulkEntry x + uptoBulkEntries r
def uptoBulkEntry {H : Type} : Lit × DataW H → Nat
  | (.string bytes, d) => bytes.length + uptoBulk d + 1
  | (_, d) => uptoBulk d + 1
 end
def uptoSmall : (H : Type) → List (DataW H) → Bool := fun _ ds => decide (uptoBulkAll ds ≤ 1048576)
def OpenSpec.upto (s : _root_.Go.ChangeSpec) : _root_.Go.OpenSpec := { _root_.Go.OpenSpec.ofChange s with cond := some uptoSmall }

/-- 'laws.FnExactEncodeIcmp', WHERE WHAT IT READS IS OF BULK AT MOST 1048576: true; the input reads as it did. -/
def fnExactEncodeIcmpUptoRow : OpenClaim := { program := "ytakoagfeiolkjabdoor", sum := "892b6e92bb561b73f5be30a4b4e10f8012f68928805135078bcf86a71178fa0d", func := "loop.example/g00003/laws.FnExactEncodeIcmp", spec := "fnExactEncodeIcmp", inPlace := ["internal/reflectlite.ValueOf", "(internal/reflectlite.Value).Type", "(internal/reflectlite.Value).IsNil", "internal/reflectlite.TypeOf", "(internal/reflectlite.Value).Elem", "(internal/reflectlite.Value).Set"], unfollowed := true, recurses := true, named := ["errors.errorType"], apart := false, laid := [("errors.errorType", laid_errors_errorType)], narrowed := true }
def FnExactEncodeIcmpUptoSaid : Prop := fnExactEncodeIcmpUptoRow.holds Tryd.pinned (OpenSpec.upto fnExactEncodeIcmpSpec)

/-- 'laws.FnExactDecodeUdp', WHERE WHAT IT READS IS OF BULK AT MOST 1048576: true; the input reads as it did. -/
def fnExactDecodeUdpUptoRow : OpenClaim := { program := "ytakoagfeiolkjabdoor", sum := "892b6e92bb561b73f5be30a4b4e10f8012f68928805135078bcf86a71178fa0d", func := "loop.example/g00003/laws.FnExactDecodeUdp", spec := "fnExactDecodeUdp", inPlace := ["internal/reflectlite.ValueOf", "(internal/reflectlite.Value).Type", "(internal/reflectlite.Value).IsNil", "internal/reflectlite.TypeOf", "(internal/reflectlite.Value).Elem", "(internal/reflectlite.Value).Set"], unfollowed := true, recurses := true, named := ["errors.errorType"], apart := false, laid := [("errors.errorType", laid_errors_errorType)], narrowed := true }
def FnExactDecodeUdpUptoSaid : Prop := fnExactDecodeUdpUptoRow.holds Tryd.pinned (OpenSpec.upto fnExactDecodeUdpSpec)

/-- 'laws.FnExactEncodeIP', WHERE WHAT IT READS IS OF BULK AT MOST 1048576: true; the input reads as it did. -/
def fnExactEncodeIPUptoRow : OpenClaim := { program := "ytakoagfeiolkjabdoor", sum := "892b6e92bb561b73f5be30a4b4e10f8012f68928805135078bcf86a71178fa0d", func := "loop.example/g00003/laws.FnExactEncodeIP", spec := "fnExactEncodeIP", inPlace := ["internal/reflectlite.ValueOf", "(internal/reflectlite.Value).Type", "(internal/reflectlite.Value).IsNil", "internal/reflectlite.TypeOf", "(internal/reflectlite.Value).Elem", "(internal/reflectlite.Value).Set"], unfollowed := true, recurses := true, named := ["errors.errorType"], apart := false, laid := [("errors.errorType", laid_errors_errorType)], narrowed := true }
def FnExactEncodeIPUptoSaid : Prop := fnExactEncodeIPUptoRow.holds Tryd.pinned (OpenSpec.upto fnExactEncodeIPSpec)

/-- 'laws.FnExactEncodeUdp', WHERE WHAT IT READS IS OF BULK AT MOST 1048576: true; the input reads as it did. -/
def fnExactEncodeUdpUptoRow : OpenClaim := { program := "ytakoagfeiolkjabdoor", sum := "892b6e92bb561b73f5be30a4b4e10f8012f68928805135078bcf86a71178fa0d", func := "loop.example/g00003/laws.FnExactEncodeUdp", spec := "fnExactEncodeUdp", inPlace := ["internal/reflectlite.ValueOf", "(internal/reflectlite.Value).Type", "(internal/reflectlite.Value).IsNil", "internal/reflectlite.TypeOf", "(internal/reflectlite.Value).Elem", "(internal/reflectlite.Value).Set"], unfollowed := true, recurses := true, named := ["errors.errorType"], apart := false, laid := [("errors.errorType", laid_errors_errorType)], narrowed := true }
def FnExactEncodeUdpUptoSaid : Prop := fnExactEncodeUdpUptoRow.holds Tryd.pinned (OpenSpec.upto fnExactEncodeUdpSpec)

/-- 'laws.FnExactComplain', WHERE WHAT IT READS IS OF BULK AT MOST 1048576: true; the input reads as it did. -/
def fnExactComplainUptoRow : OpenClaim := { program := "ytakoagfeiolkjabdoor", sum := "892b6e92bb561b73f5be30a4b4e10f8012f68928805135078bcf86a71178fa0d", func := "loop.example/g00003/laws.FnExactComplain", spec := "fnExactComplain", inPlace := ["internal/reflectlite.ValueOf", "(internal/reflectlite.Value).Type", "(internal/reflectlite.Value).IsNil", "internal/reflectlite.TypeOf", "(internal/reflectlite.Value).Elem", "(internal/reflectlite.Value).Set"], unfollowed := true, recurses := true, named := ["errors.errorType"], apart := false, laid := [("errors.errorType", laid_errors_errorType)], narrowed := true }
def FnExactComplainUptoSaid : Prop := fnExactComplainUptoRow.holds Tryd.pinned (OpenSpec.upto fnExactComplainSpec)

end Rows
end Go.Proofs.YtakoagfeiolkjabDoor
