/-
  No cell of these rows narrows 'for every input' (looked for: loops, veiled, ifaces, maps, wideKeys, modest, calm, conditions, laid).
  DERIVED. THE GIVEN ROWS OF THIS SEAT. 6 by the template 'for every input the law returns true; each argument reads behind the call as it read before'; 0 by the template 'total and deterministic' (their statements: YtnnijikfppijfabTotals.lean).
  GIVEN WITH THE SEED: the statements are not yours to turn. If you find one false, say at which input.
  Laid BY PROGRAM, IN A SANDBOX (cutbox-rows.mjs): the forced cells as the released guide's own fill.sh prints them over the translation 1221d632d8908e7a… (all of the seat's roots in one cut). By AI agents, Wed Nov 11 2026. No macro, syntax, notation, axiom, sorry.
-/
import Derived.Test.YtnnijikfppijfabChecked
import GoSem.Claim
import GoSem.ClaimJoined
import GoSem.ClaimMapViews
import Derived.JoinedTies
import Derived.KernelRfl
namespace Go.Proofs.Ytnnijikfppijfab
/- THE CELL 'sum', in the pinned program and in every row, IS THE sha256 OF THE DUMP (.gsa) THAT YtnnijikfppijfabProg.lean LOADS. Nothing in Lean hashes anything: it is a label: what it is worth is what the hold of that sum in a sandbox is worth. -/
noncomputable def Try.pinned : Pinned := { name := "ytnnijikfppijfab", sum := "1221d632d8908e7a1990236560533a5613bc330868787d1377487cb3f219b3c2", checked := Try.checked }
namespace Rows
def none {H : Type} : Left H := { results := [], args := [] }

/-- 'laws.FnExactRtoBackoff': WHATEVER THE INPUT: true; the input reads as it did. -/
def fnExactRtoBackoffSpec : ChangeSpec := { name := "fnExactRtoBackoff", fn := fun _ => fun
  | [d] => { results := [.lit (.bool true)], args := [d] }
  | _ => none }
def fnExactRtoBackoffRow : OpenClaim := { program := "ytnnijikfppijfab", sum := "1221d632d8908e7a1990236560533a5613bc330868787d1377487cb3f219b3c2", func := "loop.example/g00003/laws.FnExactRtoBackoff", spec := "fnExactRtoBackoff", apart := false }
def FnExactRtoBackoffSaid : Prop := fnExactRtoBackoffRow.holds Try.pinned (OpenSpec.ofChange fnExactRtoBackoffSpec)

/-- ITS FALSE NEIGHBOUR: 'it returns false'. Refute it at one input. -/
def fnExactRtoBackoffWrong : ChangeSpec := { name := "fnExactRtoBackoff", fn := fun _ => fun
  | [d] => { results := [.lit (.bool false)], args := [d] }
  | _ => none }
def FnExactRtoBackoffWrongFalsely : Prop := fnExactRtoBackoffRow.holds Try.pinned (OpenSpec.ofChange fnExactRtoBackoffWrong)

/-- 'laws.FnExactCongAck': WHATEVER THE INPUT: true; the input reads as it did. -/
def fnExactCongAckSpec : ChangeSpec := { name := "fnExactCongAck", fn := fun _ => fun
  | [d1, d2] => { results := [.lit (.bool true)], args := [d1, d2] }
  | _ => none }
def fnExactCongAckRow : OpenClaim := { program := "ytnnijikfppijfab", sum := "1221d632d8908e7a1990236560533a5613bc330868787d1377487cb3f219b3c2", func := "loop.example/g00003/laws.FnExactCongAck", spec := "fnExactCongAck", unfollowed := true, recurses := true, apart := false }
def FnExactCongAckSaid : Prop := fnExactCongAckRow.holds Try.pinned (OpenSpec.ofChange fnExactCongAckSpec)

/-- ITS FALSE NEIGHBOUR: 'it returns false'. Refute it at one input. -/
def fnExactCongAckWrong : ChangeSpec := { name := "fnExactCongAck", fn := fun _ => fun
  | [d1, d2] => { results := [.lit (.bool false)], args := [d1, d2] }
  | _ => none }
def FnExactCongAckWrongFalsely : Prop := fnExactCongAckRow.holds Try.pinned (OpenSpec.ofChange fnExactCongAckWrong)

/-- 'laws.FnExactCongLoss': WHATEVER THE INPUT: true; the input reads as it did. -/
def fnExactCongLossSpec : ChangeSpec := { name := "fnExactCongLoss", fn := fun _ => fun
  | [d1, d2] => { results := [.lit (.bool true)], args := [d1, d2] }
  | _ => none }
def fnExactCongLossRow : OpenClaim := { program := "ytnnijikfppijfab", sum := "1221d632d8908e7a1990236560533a5613bc330868787d1377487cb3f219b3c2", func := "loop.example/g00003/laws.FnExactCongLoss", spec := "fnExactCongLoss", unfollowed := true, recurses := true, apart := false }
def FnExactCongLossSaid : Prop := fnExactCongLossRow.holds Try.pinned (OpenSpec.ofChange fnExactCongLossSpec)

/-- ITS FALSE NEIGHBOUR: 'it returns false'. Refute it at one input. -/
def fnExactCongLossWrong : ChangeSpec := { name := "fnExactCongLoss", fn := fun _ => fun
  | [d1, d2] => { results := [.lit (.bool false)], args := [d1, d2] }
  | _ => none }
def FnExactCongLossWrongFalsely : Prop := fnExactCongLossRow.holds Try.pinned (OpenSpec.ofChange fnExactCongLossWrong)

/-- 'laws.FnExactCongTimeout': WHATEVER THE INPUT: true; the input reads as it did. -/
def fnExactCongTimeoutSpec : ChangeSpec := { name := "fnExactCongTimeout", fn := fun _ => fun
  | [d1, d2] => { results := [.lit (.bool true)], args := [d1, d2] }
  | _ => none }
def fnExactCongTimeoutRow : OpenClaim := { program := "ytnnijikfppijfab", sum := "1221d632d8908e7a1990236560533a5613bc330868787d1377487cb3f219b3c2", func := "loop.example/g00003/laws.FnExactCongTimeout", spec := "fnExactCongTimeout", unfollowed := true, recurses := true, apart := false }
def FnExactCongTimeoutSaid : Prop := fnExactCongTimeoutRow.holds Try.pinned (OpenSpec.ofChange fnExactCongTimeoutSpec)

/-- ITS FALSE NEIGHBOUR: 'it returns false'. Refute it at one input. -/
def fnExactCongTimeoutWrong : ChangeSpec := { name := "fnExactCongTimeout", fn := fun _ => fun
  | [d1, d2] => { results := [.lit (.bool false)], args := [d1, d2] }
  | _ => none }
def FnExactCongTimeoutWrongFalsely : Prop := fnExactCongTimeoutRow.holds Try.pinned (OpenSpec.ofChange fnExactCongTimeoutWrong)

/-- 'laws.FnExactCongIdle': WHATEVER THE INPUT: true; the input reads as it did. -/
def fnExactCongIdleSpec : ChangeSpec := { name := "fnExactCongIdle", fn := fun _ => fun
  | [d] => { results := [.lit (.bool true)], args := [d] }
  | _ => none }
def fnExactCongIdleRow : OpenClaim := { program := "ytnnijikfppijfab", sum := "1221d632d8908e7a1990236560533a5613bc330868787d1377487cb3f219b3c2", func := "loop.example/g00003/laws.FnExactCongIdle", spec := "fnExactCongIdle", unfollowed := true, recurses := true, apart := false }
def FnExactCongIdleSaid : Prop := fnExactCongIdleRow.holds Try.pinned (OpenSpec.ofChange fnExactCongIdleSpec)

/-- ITS FALSE NEIGHBOUR: 'it returns false'. Refute it at one input. -/
def fnExactCongIdleWrong : ChangeSpec := { name := "fnExactCongIdle", fn := fun _ => fun
  | [d] => { results := [.lit (.bool false)], args := [d] }
  | _ => none }
def FnExactCongIdleWrongFalsely : Prop := fnExactCongIdleRow.holds Try.pinned (OpenSpec.ofChange fnExactCongIdleWrong)

/-- 'laws.FnWindow': WHATEVER THE INPUT: true; the input reads as it did. -/
def fnWindowSpec : ChangeSpec := { name := "fnWindow", fn := fun _ => fun
  | [d] => { results := [.lit (.bool true)], args := [d] }
  | _ => none }
def fnWindowRow : OpenClaim := { program := "ytnnijikfppijfab", sum := "1221d632d8908e7a1990236560533a5613bc330868787d1377487cb3f219b3c2", func := "loop.example/g00003/laws.FnWindow", spec := "fnWindow", unfollowed := true, recurses := true, apart := false }
def FnWindowSaid : Prop := fnWindowRow.holds Try.pinned (OpenSpec.ofChange fnWindowSpec)

/-- ITS FALSE NEIGHBOUR: 'it returns false'. Refute it at one input. -/
def fnWindowWrong : ChangeSpec := { name := "fnWindow", fn := fun _ => fun
  | [d] => { results := [.lit (.bool false)], args := [d] }
  | _ => none }
def FnWindowWrongFalsely : Prop := fnWindowRow.holds Try.pinned (OpenSpec.ofChange fnWindowWrong)

/- THE SECOND FORM. 'bulk': how many values and letters a reading holds, each counted each time it is reached (what is shared counts as often as it is met; a slice's spare places count too). A statement '..UptoSaid' is the law's where the arguments, and the package variables that the reading takes, are together of bulk at most 1048576: NARROWER than '..Said'. Prove '..Said' where nothing that the law and all that it calls make is longer than what came in: it says more and counts as full. Else prove '..UptoSaid'. A law counts once. -/
mutual
def uptoBulk {H : Type} : DataW H → Nat
  | .lit (.string bytes) => bytes.length + 1
  | .lit _ => 1
  | .nil => 1
  | .ptr d => uptoBulk d + 1
  | .slice elems spare => uptoBulkAll elems + uptoBulkAll spare + 1
  | .agg parts => uptoBulkAll parts + 1
  | .iface _ d => uptoBulk d + 1
  | .map entries => uptoBulkEntries entries + 1
  | .held _ => 1
def uptoBulkAll {H : Type} : List (DataW H) → Nat
  | [] => 0
  | d :: r => uptoBulk d + uptoBulkAll r
def uptoBulkEntries {H : Type} : List (Lit × DataW H) → Nat
  | [] => 0
  | x :: r => uptoBulkEntry x + uptoBulkEntries r
def uptoBulkEntry {H : Type} : Lit × DataW H → Nat
  | (.string bytes, d) => bytes.length + uptoBulk d + 1
  | (_, d) => uptoBulk d + 1
 end
def uptoSmall : (H : Type) → List (DataW H) → Bool := fun _ ds => decide (uptoBulkAll ds ≤ 1048576)
def OpenSpec.upto (s : _root_.Go.ChangeSpec) : _root_.Go.OpenSpec := { _root_.Go.OpenSpec.ofChange s with cond := some uptoSmall }

/-- 'laws.FnExactRtoBackoff', WHERE WHAT IT READS IS OF BULK AT MOST 1048576: true; the input reads as it did. -/
def fnExactRtoBackoffUptoRow : OpenClaim := { program := "ytnnijikfppijfab", sum := "1221d632d8908e7a1990236560533a5613bc330868787d1377487cb3f219b3c2", func := "loop.example/g00003/laws.FnExactRtoBackoff", spec := "fnExactRtoBackoff", apart := false, narrowed := true }
def FnExactRtoBackoffUptoSaid : Prop := fnExactRtoBackoffUptoRow.holds Try.pinned (OpenSpec.upto fnExactRtoBackoffSpec)

/-- 'laws.FnExactCongAck', WHERE WHAT IT READS IS OF BULK AT MOST 1048576: true; the input reads as it did. -/
def fnExactCongAckUptoRow : OpenClaim := { program := "ytnnijikfppijfab", sum := "1221d632d8908e7a1990236560533a5613bc330868787d1377487cb3f219b3c2", func := "loop.example/g00003/laws.FnExactCongAck", spec := "fnExactCongAck", unfollowed := true, recurses := true, apart := false, narrowed := true }
def FnExactCongAckUptoSaid : Prop := fnExactCongAckUptoRow.holds Try.pinned (OpenSpec.upto fnExactCongAckSpec)

/-- 'laws.FnExactCongLoss', WHERE WHAT IT READS IS OF BULK AT MOST 1048576: true; the input reads as it did. -/
def fnExactCongLossUptoRow : OpenClaim := { program := "ytnnijikfppijfab", sum := "1221d632d8908e7a1990236560533a5613bc330868787d1377487cb3f219b3c2", func := "loop.example/g00003/laws.FnExactCongLoss", spec := "fnExactCongLoss", unfollowed := true, recurses := true, apart := false, narrowed := true }
def FnExactCongLossUptoSaid : Prop := fnExactCongLossUptoRow.holds Try.pinned (OpenSpec.upto fnExactCongLossSpec)

/-- 'laws.FnExactCongTimeout', WHERE WHAT IT READS IS OF BULK AT MOST 1048576: true; the input reads as it did. -/
def fnExactCongTimeoutUptoRow : OpenClaim := { program := "ytnnijikfppijfab", sum := "1221d632d8908e7a1990236560533a5613bc330868787d1377487cb3f219b3c2", func := "loop.example/g00003/laws.FnExactCongTimeout", spec := "fnExactCongTimeout", unfollowed := true, recurses := true, apart := false, narrowed := true }
def FnExactCongTimeoutUptoSaid : Prop := fnExactCongTimeoutUptoRow.holds Try.pinned (OpenSpec.upto fnExactCongTimeoutSpec)

/-- 'laws.FnExactCongIdle', WHERE WHAT IT READS IS OF BULK AT MOST 1048576: true; the input reads as it did. -/
def fnExactCongIdleUptoRow : OpenClaim := { program := "ytnnijikfppijfab", sum := "1221d632d8908e7a1990236560533a5613bc330868787d1377487cb3f219b3c2", func := "loop.example/g00003/laws.FnExactCongIdle", spec := "fnExactCongIdle", unfollowed := true, recurses := true, apart := false, narrowed := true }
def FnExactCongIdleUptoSaid : Prop := fnExactCongIdleUptoRow.holds Try.pinned (OpenSpec.upto fnExactCongIdleSpec)

/-- 'laws.FnWindow', WHERE WHAT IT READS IS OF BULK AT MOST 1048576: true; the input reads as it did. -/
def fnWindowUptoRow : OpenClaim := { program := "ytnnijikfppijfab", sum := "1221d632d8908e7a1990236560533a5613bc330868787d1377487cb3f219b3c2", func := "loop.example/g00003/laws.FnWindow", spec := "fnWindow", unfollowed := true, recurses := true, apart := false, narrowed := true }
def FnWindowUptoSaid : Prop := fnWindowUptoRow.holds Try.pinned (OpenSpec.upto fnWindowSpec)

end Rows
end Go.Proofs.Ytnnijikfppijfab
