/-
  No cell of these rows narrows 'for every input' (looked for: loops, veiled, ifaces, maps, wideKeys, modest, calm, conditions, laid).
  DERIVED. THE GIVEN ROWS OF THIS SEAT. 5 by the template 'for every input the law returns true; each argument reads behind the call as it read before'; 0 by the template 'total and deterministic' (their statements: YtmgjagajcmeikaaTotals.lean).
  GIVEN WITH THE SEED: the statements are not yours to turn. If you find one false, say at which input.
  Laid BY PROGRAM, IN A SANDBOX (cutbox-rows.mjs): the forced cells as the released guide's own fill.sh prints them over the translation ef4f84807765b136… (all of the seat's roots in one cut). By AI agents, Wed Nov 11 2026. No macro, syntax, notation, axiom, sorry.
-/
import Derived.Test.YtmgjagajcmeikaaChecked
import GoSem.Claim
import GoSem.ClaimJoined
import GoSem.ClaimMapViews
import Derived.JoinedTies
import Derived.KernelRfl
namespace Go.Proofs.Ytmgjagajcmeikaa
/- THE CELL 'sum', in the pinned program and in every row, IS THE sha256 OF THE DUMP (.gsa) THAT YtmgjagajcmeikaaProg.lean LOADS. Nothing in Lean hashes anything: it is a label: what it is worth is what the hold of that sum in a sandbox is worth. -/
noncomputable def Try.pinned : Pinned := { name := "ytmgjagajcmeikaa", sum := "ef4f84807765b1360b840e7fc02b5d925f0b1a23a578b883588f5e52969a60a9", checked := Try.checked }
namespace Rows
def none {H : Type} : Left H := { results := [], args := [] }

/-- 'laws.FnExactChecksumPatch': WHATEVER THE INPUT: true; the input reads as it did. -/
def fnExactChecksumPatchSpec : ChangeSpec := { name := "fnExactChecksumPatch", fn := fun _ => fun
  | [d1, d2, d3] => { results := [.lit (.bool true)], args := [d1, d2, d3] }
  | _ => none }
def fnExactChecksumPatchRow : OpenClaim := { program := "ytmgjagajcmeikaa", sum := "ef4f84807765b1360b840e7fc02b5d925f0b1a23a578b883588f5e52969a60a9", func := "loop.example/g00003/laws.FnExactChecksumPatch", spec := "fnExactChecksumPatch", apart := false }
def FnExactChecksumPatchSaid : Prop := fnExactChecksumPatchRow.holds Try.pinned (OpenSpec.ofChange fnExactChecksumPatchSpec)

/-- ITS FALSE NEIGHBOUR: 'it returns false'. Refute it at one input. -/
def fnExactChecksumPatchWrong : ChangeSpec := { name := "fnExactChecksumPatch", fn := fun _ => fun
  | [d1, d2, d3] => { results := [.lit (.bool false)], args := [d1, d2, d3] }
  | _ => none }
def FnExactChecksumPatchWrongFalsely : Prop := fnExactChecksumPatchRow.holds Try.pinned (OpenSpec.ofChange fnExactChecksumPatchWrong)

/-- 'laws.FnExactCrc32': WHATEVER THE INPUT: true; the input reads as it did. -/
def fnExactCrc32Spec : ChangeSpec := { name := "fnExactCrc32", fn := fun _ => fun
  | [d] => { results := [.lit (.bool true)], args := [d] }
  | _ => none }
def fnExactCrc32Row : OpenClaim := { program := "ytmgjagajcmeikaa", sum := "ef4f84807765b1360b840e7fc02b5d925f0b1a23a578b883588f5e52969a60a9", func := "loop.example/g00003/laws.FnExactCrc32", spec := "fnExactCrc32", apart := false }
def FnExactCrc32Said : Prop := fnExactCrc32Row.holds Try.pinned (OpenSpec.ofChange fnExactCrc32Spec)

/-- ITS FALSE NEIGHBOUR: 'it returns false'. Refute it at one input. -/
def fnExactCrc32Wrong : ChangeSpec := { name := "fnExactCrc32", fn := fun _ => fun
  | [d] => { results := [.lit (.bool false)], args := [d] }
  | _ => none }
def FnExactCrc32WrongFalsely : Prop := fnExactCrc32Row.holds Try.pinned (OpenSpec.ofChange fnExactCrc32Wrong)

/-- 'laws.FnExactSeqAdd': WHATEVER THE INPUT: true; the input reads as it did. -/
def fnExactSeqAddSpec : ChangeSpec := { name := "fnExactSeqAdd", fn := fun _ => fun
  | [d1, d2] => { results := [.lit (.bool true)], args := [d1, d2] }
  | _ => none }
def fnExactSeqAddRow : OpenClaim := { program := "ytmgjagajcmeikaa", sum := "ef4f84807765b1360b840e7fc02b5d925f0b1a23a578b883588f5e52969a60a9", func := "loop.example/g00003/laws.FnExactSeqAdd", spec := "fnExactSeqAdd", apart := false }
def FnExactSeqAddSaid : Prop := fnExactSeqAddRow.holds Try.pinned (OpenSpec.ofChange fnExactSeqAddSpec)

/-- ITS FALSE NEIGHBOUR: 'it returns false'. Refute it at one input. -/
def fnExactSeqAddWrong : ChangeSpec := { name := "fnExactSeqAdd", fn := fun _ => fun
  | [d1, d2] => { results := [.lit (.bool false)], args := [d1, d2] }
  | _ => none }
def FnExactSeqAddWrongFalsely : Prop := fnExactSeqAddRow.holds Try.pinned (OpenSpec.ofChange fnExactSeqAddWrong)

/-- 'laws.FnExactSeqDiff': WHATEVER THE INPUT: true; the input reads as it did. -/
def fnExactSeqDiffSpec : ChangeSpec := { name := "fnExactSeqDiff", fn := fun _ => fun
  | [d1, d2] => { results := [.lit (.bool true)], args := [d1, d2] }
  | _ => none }
def fnExactSeqDiffRow : OpenClaim := { program := "ytmgjagajcmeikaa", sum := "ef4f84807765b1360b840e7fc02b5d925f0b1a23a578b883588f5e52969a60a9", func := "loop.example/g00003/laws.FnExactSeqDiff", spec := "fnExactSeqDiff", apart := false }
def FnExactSeqDiffSaid : Prop := fnExactSeqDiffRow.holds Try.pinned (OpenSpec.ofChange fnExactSeqDiffSpec)

/-- ITS FALSE NEIGHBOUR: 'it returns false'. Refute it at one input. -/
def fnExactSeqDiffWrong : ChangeSpec := { name := "fnExactSeqDiff", fn := fun _ => fun
  | [d1, d2] => { results := [.lit (.bool false)], args := [d1, d2] }
  | _ => none }
def FnExactSeqDiffWrongFalsely : Prop := fnExactSeqDiffRow.holds Try.pinned (OpenSpec.ofChange fnExactSeqDiffWrong)

/-- 'laws.FnExactInWindow': WHATEVER THE INPUT: true; the input reads as it did. -/
def fnExactInWindowSpec : ChangeSpec := { name := "fnExactInWindow", fn := fun _ => fun
  | [d1, d2, d3] => { results := [.lit (.bool true)], args := [d1, d2, d3] }
  | _ => none }
def fnExactInWindowRow : OpenClaim := { program := "ytmgjagajcmeikaa", sum := "ef4f84807765b1360b840e7fc02b5d925f0b1a23a578b883588f5e52969a60a9", func := "loop.example/g00003/laws.FnExactInWindow", spec := "fnExactInWindow", apart := false }
def FnExactInWindowSaid : Prop := fnExactInWindowRow.holds Try.pinned (OpenSpec.ofChange fnExactInWindowSpec)

/-- ITS FALSE NEIGHBOUR: 'it returns false'. Refute it at one input. -/
def fnExactInWindowWrong : ChangeSpec := { name := "fnExactInWindow", fn := fun _ => fun
  | [d1, d2, d3] => { results := [.lit (.bool false)], args := [d1, d2, d3] }
  | _ => none }
def FnExactInWindowWrongFalsely : Prop := fnExactInWindowRow.holds Try.pinned (OpenSpec.ofChange fnExactInWindowWrong)

/- THE SECOND FORM. 'bulk': how many values and letters a reading holds, each counted each time it is reached (what is shared counts as often as it is met; a slice's spare places count too). A statement '..UptoSaid' is the law's where the arguments, and the package variables that the reading takes, are together of bulk at most 1048576: NARROWER than '..Said'. Prove '..Said' where nothing that the law and all that it calls make is longer than what came in: it says more and counts as full. Else prove '..UptoSaid'. A law counts once. -/
mutual
def uptoBulk {H : Type} : DataW H → Nat
  | .lit (.string bytes) => bytes.length + 1
  | .lit _ => 1
  | .nil => 1
  | .ptr d => uptoBulk d + 1
  | .slice elems spare => uptoBulkAll elems + uptoBulkAll spare + 1
  | .agg parts => uptoBulkAll parts + 1
  | .iface _ d => uptoBulk d + 1
  | .map entries => uptoBulkEntries entries + 1
  | .held _ => 1
def uptoBulkAll {H : Type} : List (DataW H) → Nat
  | [] => 0
  | d :: r => uptoBulk d + uptoBulkAll r
def uptoBulkEntries {H : Type} : List (Lit × DataW H) → Nat
  | [] => 0
  | x :: r => uptoBulkEntry x + uptoBulkEntries r
def uptoBulkEntry {H : Type} : Lit × DataW H → Nat
  | (.string bytes, d) => bytes.length + uptoBulk d + 1
  | (_, d) => uptoBulk d + 1
 end
def uptoSmall : (H : Type) → List (DataW H) → Bool := fun _ ds => decide (uptoBulkAll ds ≤ 1048576)
def OpenSpec.upto (s : _root_.Go.ChangeSpec) : _root_.Go.OpenSpec := { _root_.Go.OpenSpec.ofChange s with cond := some uptoSmall }

/-- 'laws.FnExactChecksumPatch', WHERE WHAT IT READS IS OF BULK AT MOST 1048576: true; the input reads as it did. -/
def fnExactChecksumPatchUptoRow : OpenClaim := { program := "ytmgjagajcmeikaa", sum := "ef4f84807765b1360b840e7fc02b5d925f0b1a23a578b883588f5e52969a60a9", func := "loop.example/g00003/laws.FnExactChecksumPatch", spec := "fnExactChecksumPatch", apart := false, narrowed := true }
def FnExactChecksumPatchUptoSaid : Prop := fnExactChecksumPatchUptoRow.holds Try.pinned (OpenSpec.upto fnExactChecksumPatchSpec)

/-- 'laws.FnExactCrc32', WHERE WHAT IT READS IS OF BULK AT MOST 1048576: true; the input reads as it did. -/
def fnExactCrc32UptoRow : OpenClaim := { program := "ytmgjagajcmeikaa", sum := "ef4f84807765b1360b840e7fc02b5d925f0b1a23a578b883588f5e52969a60a9", func := "loop.example/g00003/laws.FnExactCrc32", spec := "fnExactCrc32", apart := false, narrowed := true }
def FnExactCrc32UptoSaid : Prop := fnExactCrc32UptoRow.holds Try.pinned (OpenSpec.upto fnExactCrc32Spec)

/-- 'laws.FnExactSeqAdd', WHERE WHAT IT READS IS OF BULK AT MOST 1048576: true; the input reads as it did. -/
def fnExactSeqAddUptoRow : OpenClaim := { program := "ytmgjagajcmeikaa", sum := "ef4f84807765b1360b840e7fc02b5d925f0b1a23a578b883588f5e52969a60a9", func := "loop.example/g00003/laws.FnExactSeqAdd", spec := "fnExactSeqAdd", apart := false, narrowed := true }
def FnExactSeqAddUptoSaid : Prop := fnExactSeqAddUptoRow.holds Try.pinned (OpenSpec.upto fnExactSeqAddSpec)

/-- 'laws.FnExactSeqDiff', WHERE WHAT IT READS IS OF BULK AT MOST 1048576: true; the input reads as it did. -/
def fnExactSeqDiffUptoRow : OpenClaim := { program := "ytmgjagajcmeikaa", sum := "ef4f84807765b1360b840e7fc02b5d925f0b1a23a578b883588f5e52969a60a9", func := "loop.example/g00003/laws.FnExactSeqDiff", spec := "fnExactSeqDiff", apart := false, narrowed := true }
def FnExactSeqDiffUptoSaid : Prop := fnExactSeqDiffUptoRow.holds Try.pinned (OpenSpec.upto fnExactSeqDiffSpec)

/-- 'laws.FnExactInWindow', WHERE WHAT IT READS IS OF BULK AT MOST 1048576: true; the input reads as it did. -/
def fnExactInWindowUptoRow : OpenClaim := { program := "ytmgjagajcmeikaa", sum := "ef4f84807765b1360b840e7fc02b5d925f0b1a23a578b883588f5e52969a60a9", func := "loop.example/g00003/laws.FnExactInWindow", spec := "fnExactInWindow", apart := false, narrowed := true }
def FnExactInWindowUptoSaid : Prop := fnExactInWindowUptoRow.holds Try.pinned (OpenSpec.upto fnExactInWindowSpec)

end Rows
end Go.Proofs.Ytmgjagajcmeikaa
