/-
  No cell of these rows narrows 'for every input' (looked for: loops, veiled, ifaces, maps, wideKeys, modest, calm, conditions, laid).
  DERIVED. THE GIVEN ROWS OF THIS SEAT. 6 by the template 'for every input the law returns true; each argument reads behind the call as it read before'; 0 by the template 'total and deterministic' (their statements: YtddkcgngpclgfaaTotals.lean).
  GIVEN WITH THE SEED: the statements are not yours to turn. If you find one false, say at which input.
  Laid BY PROGRAM, IN A SANDBOX (cutbox-rows.mjs): the forced cells as the released guide's own fill.sh prints them over the translation 584e1f1ca19fd688… (all of the seat's roots in one cut). By AI agents, Wed Nov 11 2026. No macro, syntax, notation, axiom, sorry.
-/
import Derived.Test.YtddkcgngpclgfaaChecked
import GoSem.Claim
import GoSem.ClaimJoined
import GoSem.ClaimMapViews
import Derived.JoinedTies
import Derived.KernelRfl
namespace Go.Proofs.Ytddkcgngpclgfaa
/- THE CELL 'sum', in the pinned program and in every row, IS THE sha256 OF THE DUMP (.gsa) THAT YtddkcgngpclgfaaProg.lean LOADS. Nothing in Lean hashes anything: it is a label: what it is worth is what the hold of that sum in a sandbox is worth. -/
noncomputable def Try.pinned : Pinned := { name := "ytddkcgngpclgfaa", sum := "584e1f1ca19fd6884262e9971ff14eb6370e2c952697bb08141cfa204fe956f9", checked := Try.checked }
namespace Rows
def none {H : Type} : Left H := { results := [], args := [] }

/-- 'laws.FnExactBoardPipe': WHATEVER THE INPUT: true; the input reads as it did. -/
def fnExactBoardPipeSpec : ChangeSpec := { name := "fnExactBoardPipe", fn := fun _ => fun
  | [d] => { results := [.lit (.bool true)], args := [d] }
  | _ => none }
def fnExactBoardPipeRow : OpenClaim := { program := "ytddkcgngpclgfaa", sum := "584e1f1ca19fd6884262e9971ff14eb6370e2c952697bb08141cfa204fe956f9", func := "loop.example/g00003/laws.FnExactBoardPipe", spec := "fnExactBoardPipe", apart := false }
def FnExactBoardPipeSaid : Prop := fnExactBoardPipeRow.holds Try.pinned (OpenSpec.ofChange fnExactBoardPipeSpec)

/-- ITS FALSE NEIGHBOUR: 'it returns false'. Refute it at one input. -/
def fnExactBoardPipeWrong : ChangeSpec := { name := "fnExactBoardPipe", fn := fun _ => fun
  | [d] => { results := [.lit (.bool false)], args := [d] }
  | _ => none }
def FnExactBoardPipeWrongFalsely : Prop := fnExactBoardPipeRow.holds Try.pinned (OpenSpec.ofChange fnExactBoardPipeWrong)

/-- 'laws.FnExactBoardSend': WHATEVER THE INPUT: true; the input reads as it did. -/
def fnExactBoardSendSpec : ChangeSpec := { name := "fnExactBoardSend", fn := fun _ => fun
  | [d1, d2, d3] => { results := [.lit (.bool true)], args := [d1, d2, d3] }
  | _ => none }
def fnExactBoardSendRow : OpenClaim := { program := "ytddkcgngpclgfaa", sum := "584e1f1ca19fd6884262e9971ff14eb6370e2c952697bb08141cfa204fe956f9", func := "loop.example/g00003/laws.FnExactBoardSend", spec := "fnExactBoardSend", apart := false }
def FnExactBoardSendSaid : Prop := fnExactBoardSendRow.holds Try.pinned (OpenSpec.ofChange fnExactBoardSendSpec)

/-- ITS FALSE NEIGHBOUR: 'it returns false'. Refute it at one input. -/
def fnExactBoardSendWrong : ChangeSpec := { name := "fnExactBoardSend", fn := fun _ => fun
  | [d1, d2, d3] => { results := [.lit (.bool false)], args := [d1, d2, d3] }
  | _ => none }
def FnExactBoardSendWrongFalsely : Prop := fnExactBoardSendRow.holds Try.pinned (OpenSpec.ofChange fnExactBoardSendWrong)

/-- 'laws.FnExactBoardFirst': WHATEVER THE INPUT: true; the input reads as it did. -/
def fnExactBoardFirstSpec : ChangeSpec := { name := "fnExactBoardFirst", fn := fun _ => fun
  | [d] => { results := [.lit (.bool true)], args := [d] }
  | _ => none }
def fnExactBoardFirstRow : OpenClaim := { program := "ytddkcgngpclgfaa", sum := "584e1f1ca19fd6884262e9971ff14eb6370e2c952697bb08141cfa204fe956f9", func := "loop.example/g00003/laws.FnExactBoardFirst", spec := "fnExactBoardFirst", apart := false }
def FnExactBoardFirstSaid : Prop := fnExactBoardFirstRow.holds Try.pinned (OpenSpec.ofChange fnExactBoardFirstSpec)

/-- ITS FALSE NEIGHBOUR: 'it returns false'. Refute it at one input. -/
def fnExactBoardFirstWrong : ChangeSpec := { name := "fnExactBoardFirst", fn := fun _ => fun
  | [d] => { results := [.lit (.bool false)], args := [d] }
  | _ => none }
def FnExactBoardFirstWrongFalsely : Prop := fnExactBoardFirstRow.holds Try.pinned (OpenSpec.ofChange fnExactBoardFirstWrong)

/-- 'laws.FnExactBoardTimeout': WHATEVER THE INPUT: true; the input reads as it did. -/
def fnExactBoardTimeoutSpec : ChangeSpec := { name := "fnExactBoardTimeout", fn := fun _ => fun
  | [d] => { results := [.lit (.bool true)], args := [d] }
  | _ => none }
def fnExactBoardTimeoutRow : OpenClaim := { program := "ytddkcgngpclgfaa", sum := "584e1f1ca19fd6884262e9971ff14eb6370e2c952697bb08141cfa204fe956f9", func := "loop.example/g00003/laws.FnExactBoardTimeout", spec := "fnExactBoardTimeout", apart := false }
def FnExactBoardTimeoutSaid : Prop := fnExactBoardTimeoutRow.holds Try.pinned (OpenSpec.ofChange fnExactBoardTimeoutSpec)

/-- ITS FALSE NEIGHBOUR: 'it returns false'. Refute it at one input. -/
def fnExactBoardTimeoutWrong : ChangeSpec := { name := "fnExactBoardTimeout", fn := fun _ => fun
  | [d] => { results := [.lit (.bool false)], args := [d] }
  | _ => none }
def FnExactBoardTimeoutWrongFalsely : Prop := fnExactBoardTimeoutRow.holds Try.pinned (OpenSpec.ofChange fnExactBoardTimeoutWrong)

/-- 'laws.FnExactBoardSplit': WHATEVER THE INPUT: true; the input reads as it did. -/
def fnExactBoardSplitSpec : ChangeSpec := { name := "fnExactBoardSplit", fn := fun _ => fun
  | [d1, d2] => { results := [.lit (.bool true)], args := [d1, d2] }
  | _ => none }
def fnExactBoardSplitRow : OpenClaim := { program := "ytddkcgngpclgfaa", sum := "584e1f1ca19fd6884262e9971ff14eb6370e2c952697bb08141cfa204fe956f9", func := "loop.example/g00003/laws.FnExactBoardSplit", spec := "fnExactBoardSplit", apart := false }
def FnExactBoardSplitSaid : Prop := fnExactBoardSplitRow.holds Try.pinned (OpenSpec.ofChange fnExactBoardSplitSpec)

/-- ITS FALSE NEIGHBOUR: 'it returns false'. Refute it at one input. -/
def fnExactBoardSplitWrong : ChangeSpec := { name := "fnExactBoardSplit", fn := fun _ => fun
  | [d1, d2] => { results := [.lit (.bool false)], args := [d1, d2] }
  | _ => none }
def FnExactBoardSplitWrongFalsely : Prop := fnExactBoardSplitRow.holds Try.pinned (OpenSpec.ofChange fnExactBoardSplitWrong)

/-- 'laws.FnExactBoardLose': WHATEVER THE INPUT: true; the input reads as it did. -/
def fnExactBoardLoseSpec : ChangeSpec := { name := "fnExactBoardLose", fn := fun _ => fun
  | [d] => { results := [.lit (.bool true)], args := [d] }
  | _ => none }
def fnExactBoardLoseRow : OpenClaim := { program := "ytddkcgngpclgfaa", sum := "584e1f1ca19fd6884262e9971ff14eb6370e2c952697bb08141cfa204fe956f9", func := "loop.example/g00003/laws.FnExactBoardLose", spec := "fnExactBoardLose", apart := false }
def FnExactBoardLoseSaid : Prop := fnExactBoardLoseRow.holds Try.pinned (OpenSpec.ofChange fnExactBoardLoseSpec)

/-- ITS FALSE NEIGHBOUR: 'it returns false'. Refute it at one input. -/
def fnExactBoardLoseWrong : ChangeSpec := { name := "fnExactBoardLose", fn := fun _ => fun
  | [d] => { results := [.lit (.bool false)], args := [d] }
  | _ => none }
def FnExactBoardLoseWrongFalsely : Prop := fnExactBoardLoseRow.holds Try.pinned (OpenSpec.ofChange fnExactBoardLoseWrong)

/- THE SECOND FORM. 'bulk': how many values and letters a reading holds, each counted each time it is reached (what is shared counts as often as it is met; a slice's spare places count too). A statement '..UptoSaid' is the law's where the arguments, and the package variables that the reading takes, are together of bulk at most 1048576: NARROWER than '..Said'. Prove '..Said' where nothing that the law and all that it calls make is longer than what came in: it says more and counts as full. Else prove '..UptoSaid'. A law counts once. -/
mutual
def uptoBulk {H : Type} : DataW H → Nat
  | .lit (.string bytes) => bytes.length + 1
  | .lit _ => 1
  | .nil => 1
  | .ptr d => uptoBulk d + 1
  | .slice elems spare => uptoBulkAll elems + uptoBulkAll spare + 1
  | .agg parts => uptoBulkAll parts + 1
  | .iface _ d => uptoBulk d + 1
  | .map entries => uptoBulkEntries entries + 1
  | .held _ => 1
def uptoBulkAll {H : Type} : List (DataW H) → Nat
  | [] => 0
  | d :: r => uptoBulk d + uptoBulkAll r
def uptoBulkEntries {H : Type} : List (Lit × DataW H) → Nat
  | [] => 0
  | x :: r => uptoBulkEntry x + uptoBulkEntries r
def uptoBulkEntry {H : Type} : Lit × DataW H → Nat
  | (.string bytes, d) => bytes.length + uptoBulk d + 1
  | (_, d) => uptoBulk d + 1
 end
def uptoSmall : (H : Type) → List (DataW H) → Bool := fun _ ds => decide (uptoBulkAll ds ≤ 1048576)
def OpenSpec.upto (s : _root_.Go.ChangeSpec) : _root_.Go.OpenSpec := { _root_.Go.OpenSpec.ofChange s with cond := some uptoSmall }

/-- 'laws.FnExactBoardPipe', WHERE WHAT IT READS IS OF BULK AT MOST 1048576: true; the input reads as it did. -/
def fnExactBoardPipeUptoRow : OpenClaim := { program := "ytddkcgngpclgfaa", sum := "584e1f1ca19fd6884262e9971ff14eb6370e2c952697bb08141cfa204fe956f9", func := "loop.example/g00003/laws.FnExactBoardPipe", spec := "fnExactBoardPipe", apart := false, narrowed := true }
def FnExactBoardPipeUptoSaid : Prop := fnExactBoardPipeUptoRow.holds Try.pinned (OpenSpec.upto fnExactBoardPipeSpec)

/-- 'laws.FnExactBoardSend', WHERE WHAT IT READS IS OF BULK AT MOST 1048576: true; the input reads as it did. -/
def fnExactBoardSendUptoRow : OpenClaim := { program := "ytddkcgngpclgfaa", sum := "584e1f1ca19fd6884262e9971ff14eb6370e2c952697bb08141cfa204fe956f9", func := "loop.example/g00003/laws.FnExactBoardSend", spec := "fnExactBoardSend", apart := false, narrowed := true }
def FnExactBoardSendUptoSaid : Prop := fnExactBoardSendUptoRow.holds Try.pinned (OpenSpec.upto fnExactBoardSendSpec)

/-- 'laws.FnExactBoardFirst', WHERE WHAT IT READS IS OF BULK AT MOST 1048576: true; the input reads as it did. -/
def fnExactBoardFirstUptoRow : OpenClaim := { program := "ytddkcgngpclgfaa", sum := "584e1f1ca19fd6884262e9971ff14eb6370e2c952697bb08141cfa204fe956f9", func := "loop.example/g00003/laws.FnExactBoardFirst", spec := "fnExactBoardFirst", apart := false, narrowed := true }
def FnExactBoardFirstUptoSaid : Prop := fnExactBoardFirstUptoRow.holds Try.pinned (OpenSpec.upto fnExactBoardFirstSpec)

/-- 'laws.FnExactBoardTimeout', WHERE WHAT IT READS IS OF BULK AT MOST 1048576: true; the input reads as it did. -/
def fnExactBoardTimeoutUptoRow : OpenClaim := { program := "ytddkcgngpclgfaa", sum := "584e1f1ca19fd6884262e9971ff14eb6370e2c952697bb08141cfa204fe956f9", func := "loop.example/g00003/laws.FnExactBoardTimeout", spec := "fnExactBoardTimeout", apart := false, narrowed := true }
def FnExactBoardTimeoutUptoSaid : Prop := fnExactBoardTimeoutUptoRow.holds Try.pinned (OpenSpec.upto fnExactBoardTimeoutSpec)

/-- 'laws.FnExactBoardSplit', WHERE WHAT IT READS IS OF BULK AT MOST 1048576: true; the input reads as it did. -/
def fnExactBoardSplitUptoRow : OpenClaim := { program := "ytddkcgngpclgfaa", sum := "584e1f1ca19fd6884262e9971ff14eb6370e2c952697bb08141cfa204fe956f9", func := "loop.example/g00003/laws.FnExactBoardSplit", spec := "fnExactBoardSplit", apart := false, narrowed := true }
def FnExactBoardSplitUptoSaid : Prop := fnExactBoardSplitUptoRow.holds Try.pinned (OpenSpec.upto fnExactBoardSplitSpec)

/-- 'laws.FnExactBoardLose', WHERE WHAT IT READS IS OF BULK AT MOST 1048576: true; the input reads as it did. -/
def fnExactBoardLoseUptoRow : OpenClaim := { program := "ytddkcgngpclgfaa", sum := "584e1f1ca19fd6884262e9971ff14eb6370e2c952697bb08141cfa204fe956f9", func := "loop.example/g00003/laws.FnExactBoardLose", spec := "fnExactBoardLose", apart := false, narrowed := true }
def FnExactBoardLoseUptoSaid : Prop := fnExactBoardLoseUptoRow.holds Try.pinned (OpenSpec.upto fnExactBoardLoseSpec)

end Rows
end Go.Proofs.Ytddkcgngpclgfaa
