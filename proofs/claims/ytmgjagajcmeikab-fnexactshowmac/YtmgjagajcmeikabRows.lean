/-
  No cell of these rows narrows 'for every input' (looked for: loops, veiled, ifaces, maps, wideKeys, modest, calm, conditions, laid).
  DERIVED. THE GIVEN ROWS OF THIS SEAT. 6 by the template 'for every input the law returns true; each argument reads behind the call as it read before'; 0 by the template 'total and deterministic' (their statements: YtmgjagajcmeikabTotals.lean).
  GIVEN WITH THE SEED: the statements are not yours to turn. If you find one false, say at which input.
  Laid BY PROGRAM, IN A SANDBOX (cutbox-rows.mjs): the forced cells as the released guide's own fill.sh prints them over the translation 4e8e009c35c901ec… (all of the seat's roots in one cut). By AI agents, Wed Nov 11 2026. No macro, syntax, notation, axiom, sorry.
-/
import Derived.Test.YtmgjagajcmeikabChecked
import GoSem.Claim
import GoSem.ClaimJoined
import GoSem.ClaimMapViews
import Derived.JoinedTies
import Derived.KernelRfl
namespace Go.Proofs.Ytmgjagajcmeikab
/- THE CELL 'sum', in the pinned program and in every row, IS THE sha256 OF THE DUMP (.gsa) THAT YtmgjagajcmeikabProg.lean LOADS. Nothing in Lean hashes anything: it is a label: what it is worth is what the hold of that sum in a sandbox is worth. -/
noncomputable def Try.pinned : Pinned := { name := "ytmgjagajcmeikab", sum := "4e8e009c35c901ec480d0344c2d893995b82a94bd5c0c0585b92490288009132", checked := Try.checked }
namespace Rows
def none {H : Type} : Left H := { results := [], args := [] }

/-- 'laws.FnExactReadMac': WHATEVER THE INPUT: true; the input reads as it did. -/
def fnExactReadMacSpec : ChangeSpec := { name := "fnExactReadMac", fn := fun _ => fun
  | [d] => { results := [.lit (.bool true)], args := [d] }
  | _ => none }
def fnExactReadMacRow : OpenClaim := { program := "ytmgjagajcmeikab", sum := "4e8e009c35c901ec480d0344c2d893995b82a94bd5c0c0585b92490288009132", func := "loop.example/g00003/laws.FnExactReadMac", spec := "fnExactReadMac", apart := false }
def FnExactReadMacSaid : Prop := fnExactReadMacRow.holds Try.pinned (OpenSpec.ofChange fnExactReadMacSpec)

/-- ITS FALSE NEIGHBOUR: 'it returns false'. Refute it at one input. -/
def fnExactReadMacWrong : ChangeSpec := { name := "fnExactReadMac", fn := fun _ => fun
  | [d] => { results := [.lit (.bool false)], args := [d] }
  | _ => none }
def FnExactReadMacWrongFalsely : Prop := fnExactReadMacRow.holds Try.pinned (OpenSpec.ofChange fnExactReadMacWrong)

/-- 'laws.FnExactChecksum': WHATEVER THE INPUT: true; the input reads as it did. -/
def fnExactChecksumSpec : ChangeSpec := { name := "fnExactChecksum", fn := fun _ => fun
  | [d] => { results := [.lit (.bool true)], args := [d] }
  | _ => none }
def fnExactChecksumRow : OpenClaim := { program := "ytmgjagajcmeikab", sum := "4e8e009c35c901ec480d0344c2d893995b82a94bd5c0c0585b92490288009132", func := "loop.example/g00003/laws.FnExactChecksum", spec := "fnExactChecksum", apart := false }
def FnExactChecksumSaid : Prop := fnExactChecksumRow.holds Try.pinned (OpenSpec.ofChange fnExactChecksumSpec)

/-- ITS FALSE NEIGHBOUR: 'it returns false'. Refute it at one input. -/
def fnExactChecksumWrong : ChangeSpec := { name := "fnExactChecksum", fn := fun _ => fun
  | [d] => { results := [.lit (.bool false)], args := [d] }
  | _ => none }
def FnExactChecksumWrongFalsely : Prop := fnExactChecksumRow.holds Try.pinned (OpenSpec.ofChange fnExactChecksumWrong)

/-- 'laws.FnExactSeqLess': WHATEVER THE INPUT: true; the input reads as it did. -/
def fnExactSeqLessSpec : ChangeSpec := { name := "fnExactSeqLess", fn := fun _ => fun
  | [d1, d2] => { results := [.lit (.bool true)], args := [d1, d2] }
  | _ => none }
def fnExactSeqLessRow : OpenClaim := { program := "ytmgjagajcmeikab", sum := "4e8e009c35c901ec480d0344c2d893995b82a94bd5c0c0585b92490288009132", func := "loop.example/g00003/laws.FnExactSeqLess", spec := "fnExactSeqLess", apart := false }
def FnExactSeqLessSaid : Prop := fnExactSeqLessRow.holds Try.pinned (OpenSpec.ofChange fnExactSeqLessSpec)

/-- ITS FALSE NEIGHBOUR: 'it returns false'. Refute it at one input. -/
def fnExactSeqLessWrong : ChangeSpec := { name := "fnExactSeqLess", fn := fun _ => fun
  | [d1, d2] => { results := [.lit (.bool false)], args := [d1, d2] }
  | _ => none }
def FnExactSeqLessWrongFalsely : Prop := fnExactSeqLessRow.holds Try.pinned (OpenSpec.ofChange fnExactSeqLessWrong)

/-- 'laws.FnExactSeqLeq': WHATEVER THE INPUT: true; the input reads as it did. -/
def fnExactSeqLeqSpec : ChangeSpec := { name := "fnExactSeqLeq", fn := fun _ => fun
  | [d1, d2] => { results := [.lit (.bool true)], args := [d1, d2] }
  | _ => none }
def fnExactSeqLeqRow : OpenClaim := { program := "ytmgjagajcmeikab", sum := "4e8e009c35c901ec480d0344c2d893995b82a94bd5c0c0585b92490288009132", func := "loop.example/g00003/laws.FnExactSeqLeq", spec := "fnExactSeqLeq", apart := false }
def FnExactSeqLeqSaid : Prop := fnExactSeqLeqRow.holds Try.pinned (OpenSpec.ofChange fnExactSeqLeqSpec)

/-- ITS FALSE NEIGHBOUR: 'it returns false'. Refute it at one input. -/
def fnExactSeqLeqWrong : ChangeSpec := { name := "fnExactSeqLeq", fn := fun _ => fun
  | [d1, d2] => { results := [.lit (.bool false)], args := [d1, d2] }
  | _ => none }
def FnExactSeqLeqWrongFalsely : Prop := fnExactSeqLeqRow.holds Try.pinned (OpenSpec.ofChange fnExactSeqLeqWrong)

/-- 'laws.FnExactShowMac': WHATEVER THE INPUT: true; the input reads as it did. -/
def fnExactShowMacSpec : ChangeSpec := { name := "fnExactShowMac", fn := fun _ => fun
  | [d] => { results := [.lit (.bool true)], args := [d] }
  | _ => none }
def fnExactShowMacRow : OpenClaim := { program := "ytmgjagajcmeikab", sum := "4e8e009c35c901ec480d0344c2d893995b82a94bd5c0c0585b92490288009132", func := "loop.example/g00003/laws.FnExactShowMac", spec := "fnExactShowMac", apart := false }
def FnExactShowMacSaid : Prop := fnExactShowMacRow.holds Try.pinned (OpenSpec.ofChange fnExactShowMacSpec)

/-- ITS FALSE NEIGHBOUR: 'it returns false'. Refute it at one input. -/
def fnExactShowMacWrong : ChangeSpec := { name := "fnExactShowMac", fn := fun _ => fun
  | [d] => { results := [.lit (.bool false)], args := [d] }
  | _ => none }
def FnExactShowMacWrongFalsely : Prop := fnExactShowMacRow.holds Try.pinned (OpenSpec.ofChange fnExactShowMacWrong)

/-- 'laws.FnExactAddrKind': WHATEVER THE INPUT: true; the input reads as it did. -/
def fnExactAddrKindSpec : ChangeSpec := { name := "fnExactAddrKind", fn := fun _ => fun
  | [d] => { results := [.lit (.bool true)], args := [d] }
  | _ => none }
def fnExactAddrKindRow : OpenClaim := { program := "ytmgjagajcmeikab", sum := "4e8e009c35c901ec480d0344c2d893995b82a94bd5c0c0585b92490288009132", func := "loop.example/g00003/laws.FnExactAddrKind", spec := "fnExactAddrKind", apart := false }
def FnExactAddrKindSaid : Prop := fnExactAddrKindRow.holds Try.pinned (OpenSpec.ofChange fnExactAddrKindSpec)

/-- ITS FALSE NEIGHBOUR: 'it returns false'. Refute it at one input. -/
def fnExactAddrKindWrong : ChangeSpec := { name := "fnExactAddrKind", fn := fun _ => fun
  | [d] => { results := [.lit (.bool false)], args := [d] }
  | _ => none }
def FnExactAddrKindWrongFalsely : Prop := fnExactAddrKindRow.holds Try.pinned (OpenSpec.ofChange fnExactAddrKindWrong)

/- THE SECOND FORM. 'bulk': how many values and letters a reading holds, each counted each time it is reached (what is shared counts as often as it is met; a slice's spare places count too). A statement '..UptoSaid' is the law's where the arguments, and the package variables that the reading takes, are together of bulk at most 1048576: NARROWER than '..Said'. Prove '..Said' where nothing that the law and all that it calls make is longer than what came in: it says more and counts as full. Else prove '..UptoSaid'. A law counts once. -/
mutual
def uptoBulk {H : Type} : DataW H → Nat
  | .lit (.string bytes) => bytes.length + 1
  | .lit _ => 1
  | .nil => 1
  | .ptr d => uptoBulk d + 1
  | .slice elems spare => uptoBulkAll elems + uptoBulkAll spare + 1
  | .agg parts => uptoBulkAll parts + 1
  | .iface _ d => uptoBulk d + 1
  | .map entries => uptoBulkEntries entries + 1
  | .held _ => 1
def uptoBulkAll {H : Type} : List (DataW H) → Nat
  | [] => 0
  | d :: r => uptoBulk d + uptoBulkAll r
def uptoBulkEntries {H : Type} : List (Lit × DataW H) → Nat
  | [] => 0
  | x :: r => uptoBulkEntry x + uptoBulkEntries r
def uptoBulkEntry {H : Type} : Lit × DataW H → Nat
  | (.string bytes, d) => bytes.length + uptoBulk d + 1
  | (_, d) => uptoBulk d + 1
 end
def uptoSmall : (H : Type) → List (DataW H) → Bool := fun _ ds => decide (uptoBulkAll ds ≤ 1048576)
def OpenSpec.upto (s : _root_.Go.ChangeSpec) : _root_.Go.OpenSpec := { _root_.Go.OpenSpec.ofChange s with cond := some uptoSmall }

/-- 'laws.FnExactReadMac', WHERE WHAT IT READS IS OF BULK AT MOST 1048576: true; the input reads as it did. -/
def fnExactReadMacUptoRow : OpenClaim := { program := "ytmgjagajcmeikab", sum := "4e8e009c35c901ec480d0344c2d893995b82a94bd5c0c0585b92490288009132", func := "loop.example/g00003/laws.FnExactReadMac", spec := "fnExactReadMac", apart := false, narrowed := true }
def FnExactReadMacUptoSaid : Prop := fnExactReadMacUptoRow.holds Try.pinned (OpenSpec.upto fnExactReadMacSpec)

/-- 'laws.FnExactChecksum', WHERE WHAT IT READS IS OF BULK AT MOST 1048576: true; the input reads as it did. -/
def fnExactChecksumUptoRow : OpenClaim := { program := "ytmgjagajcmeikab", sum := "4e8e009c35c901ec480d0344c2d893995b82a94bd5c0c0585b92490288009132", func := "loop.example/g00003/laws.FnExactChecksum", spec := "fnExactChecksum", apart := false, narrowed := true }
def FnExactChecksumUptoSaid : Prop := fnExactChecksumUptoRow.holds Try.pinned (OpenSpec.upto fnExactChecksumSpec)

/-- 'laws.FnExactSeqLess', WHERE WHAT IT READS IS OF BULK AT MOST 1048576: true; the input reads as it did. -/
def fnExactSeqLessUptoRow : OpenClaim := { program := "ytmgjagajcmeikab", sum := "4e8e009c35c901ec480d0344c2d893995b82a94bd5c0c0585b92490288009132", func := "loop.example/g00003/laws.FnExactSeqLess", spec := "fnExactSeqLess", apart := false, narrowed := true }
def FnExactSeqLessUptoSaid : Prop := fnExactSeqLessUptoRow.holds Try.pinned (OpenSpec.upto fnExactSeqLessSpec)

/-- 'laws.FnExactSeqLeq', WHERE WHAT IT READS IS OF BULK AT MOST 1048576: true; the input reads as it did. -/
def fnExactSeqLeqUptoRow : OpenClaim := { program := "ytmgjagajcmeikab", sum := "4e8e009c35c901ec480d0344c2d893995b82a94bd5c0c0585b92490288009132", func := "loop.example/g00003/laws.FnExactSeqLeq", spec := "fnExactSeqLeq", apart := false, narrowed := true }
def FnExactSeqLeqUptoSaid : Prop := fnExactSeqLeqUptoRow.holds Try.pinned (OpenSpec.upto fnExactSeqLeqSpec)

/-- 'laws.FnExactShowMac', WHERE WHAT IT READS IS OF BULK AT MOST 1048576: true; the input reads as it did. -/
def fnExactShowMacUptoRow : OpenClaim := { program := "ytmgjagajcmeikab", sum := "4e8e009c35c901ec480d0344c2d893995b82a94bd5c0c0585b92490288009132", func := "loop.example/g00003/laws.FnExactShowMac", spec := "fnExactShowMac", apart := false, narrowed := true }
def FnExactShowMacUptoSaid : Prop := fnExactShowMacUptoRow.holds Try.pinned (OpenSpec.upto fnExactShowMacSpec)

/-- 'laws.FnExactAddrKind', WHERE WHAT IT READS IS OF BULK AT MOST 1048576: true; the input reads as it did. -/
def fnExactAddrKindUptoRow : OpenClaim := { program := "ytmgjagajcmeikab", sum := "4e8e009c35c901ec480d0344c2d893995b82a94bd5c0c0585b92490288009132", func := "loop.example/g00003/laws.FnExactAddrKind", spec := "fnExactAddrKind", apart := false, narrowed := true }
def FnExactAddrKindUptoSaid : Prop := fnExactAddrKindUptoRow.holds Try.pinned (OpenSpec.upto fnExactAddrKindSpec)

end Rows
end Go.Proofs.Ytmgjagajcmeikab
