/-
  No cell of these rows narrows 'for every input' (looked for: loops, veiled, ifaces, maps, wideKeys, modest, calm, conditions, laid).
  DERIVED. THE GIVEN ROWS OF THIS SEAT. 6 by the template 'for every input the law returns true; each argument reads behind the call as it read before'; 0 by the template 'total and deterministic' (their statements: YtnnijikfppijfaaTotals.lean).
  GIVEN WITH THE SEED: the statements are not yours to turn. If you find one false, say at which input.
  Laid BY PROGRAM, IN A SANDBOX (cutbox-rows.mjs): the forced cells as the released guide's own fill.sh prints them over the translation ed55ea6ea1aafc1f… (all of the seat's roots in one cut). By AI agents, Wed Nov 11 2026. No macro, syntax, notation, axiom, sorry.
-/
import Derived.Test.YtnnijikfppijfaaChecked
import GoSem.Claim
import GoSem.ClaimJoined
import GoSem.ClaimMapViews
import Derived.JoinedTies
import Derived.KernelRfl
namespace Go.Proofs.Ytnnijikfppijfaa
/- THE CELL 'sum', in the pinned program and in every row, IS THE sha256 OF THE DUMP (.gsa) THAT YtnnijikfppijfaaProg.lean LOADS. Nothing in Lean hashes anything: it is a label: what it is worth is what the hold of that sum in a sandbox is worth. -/
noncomputable def Try.pinned : Pinned := { name := "ytnnijikfppijfaa", sum := "ed55ea6ea1aafc1ff1d99018e9445836f3df8ac964301b6df13dfa3d74ece92d", checked := Try.checked }
namespace Rows
def none {H : Type} : Left H := { results := [], args := [] }

/-- 'laws.FnExactNewRto': WHATEVER THE INPUT: true; the input reads as it did. -/
def fnExactNewRtoSpec : ChangeSpec := { name := "fnExactNewRto", fn := fun _ => fun
  | [] => { results := [.lit (.bool true)], args := [] }
  | _ => none }
def fnExactNewRtoRow : OpenClaim := { program := "ytnnijikfppijfaa", sum := "ed55ea6ea1aafc1ff1d99018e9445836f3df8ac964301b6df13dfa3d74ece92d", func := "loop.example/g00003/laws.FnExactNewRto", spec := "fnExactNewRto", apart := false }
def FnExactNewRtoSaid : Prop := fnExactNewRtoRow.holds Try.pinned (OpenSpec.ofChange fnExactNewRtoSpec)

/-- ITS FALSE NEIGHBOUR: 'it returns false'. Refute it at one input. -/
def fnExactNewRtoWrong : ChangeSpec := { name := "fnExactNewRto", fn := fun _ => fun
  | [] => { results := [.lit (.bool false)], args := [] }
  | _ => none }
def FnExactNewRtoWrongFalsely : Prop := fnExactNewRtoRow.holds Try.pinned (OpenSpec.ofChange fnExactNewRtoWrong)

/-- 'laws.FnFair': WHATEVER THE INPUT: true; the input reads as it did. -/
def fnFairSpec : ChangeSpec := { name := "fnFair", fn := fun _ => fun
  | [d] => { results := [.lit (.bool true)], args := [d] }
  | _ => none }
def fnFairRow : OpenClaim := { program := "ytnnijikfppijfaa", sum := "ed55ea6ea1aafc1ff1d99018e9445836f3df8ac964301b6df13dfa3d74ece92d", func := "loop.example/g00003/laws.FnFair", spec := "fnFair", inPlace := ["(*sync.WaitGroup).Add", "internal/race.ReleaseMerge", "internal/race.Disable", "internal/race.Enable", "internal/synctest.IsInBubble", "internal/synctest.Associate[sync.WaitGroup]", "sync.fatal", "sync/atomic.OrUint64", "sync/atomic.AddUint64", "internal/race.Read", "sync/atomic.LoadUint64", "sync/atomic.StoreUint64", "internal/synctest.Disassociate[sync.WaitGroup]", "sync.runtime_Semrelease", "(*sync.WaitGroup).Done", "(*sync.WaitGroup).Wait", "internal/race.Acquire", "internal/synctest.IsAssociated[sync.WaitGroup]", "sync/atomic.CompareAndSwapUint64", "internal/race.Write", "sync.runtime_SemacquireWaitGroup"], unfollowed := true, recurses := true, leaving := true, apart := false }
def FnFairSaid : Prop := fnFairRow.holds Try.pinned (OpenSpec.ofChange fnFairSpec)

/-- ITS FALSE NEIGHBOUR: 'it returns false'. Refute it at one input. -/
def fnFairWrong : ChangeSpec := { name := "fnFair", fn := fun _ => fun
  | [d] => { results := [.lit (.bool false)], args := [d] }
  | _ => none }
def FnFairWrongFalsely : Prop := fnFairRow.holds Try.pinned (OpenSpec.ofChange fnFairWrong)

/-- 'laws.FnExactCongMss': WHATEVER THE INPUT: true; the input reads as it did. -/
def fnExactCongMssSpec : ChangeSpec := { name := "fnExactCongMss", fn := fun _ => fun
  | [d1, d2] => { results := [.lit (.bool true)], args := [d1, d2] }
  | _ => none }
def fnExactCongMssRow : OpenClaim := { program := "ytnnijikfppijfaa", sum := "ed55ea6ea1aafc1ff1d99018e9445836f3df8ac964301b6df13dfa3d74ece92d", func := "loop.example/g00003/laws.FnExactCongMss", spec := "fnExactCongMss", unfollowed := true, recurses := true, leaving := true, apart := false }
def FnExactCongMssSaid : Prop := fnExactCongMssRow.holds Try.pinned (OpenSpec.ofChange fnExactCongMssSpec)

/-- ITS FALSE NEIGHBOUR: 'it returns false'. Refute it at one input. -/
def fnExactCongMssWrong : ChangeSpec := { name := "fnExactCongMss", fn := fun _ => fun
  | [d1, d2] => { results := [.lit (.bool false)], args := [d1, d2] }
  | _ => none }
def FnExactCongMssWrongFalsely : Prop := fnExactCongMssRow.holds Try.pinned (OpenSpec.ofChange fnExactCongMssWrong)

/-- 'laws.FnExactNewCong': WHATEVER THE INPUT: true; the input reads as it did. -/
def fnExactNewCongSpec : ChangeSpec := { name := "fnExactNewCong", fn := fun _ => fun
  | [d] => { results := [.lit (.bool true)], args := [d] }
  | _ => none }
def fnExactNewCongRow : OpenClaim := { program := "ytnnijikfppijfaa", sum := "ed55ea6ea1aafc1ff1d99018e9445836f3df8ac964301b6df13dfa3d74ece92d", func := "loop.example/g00003/laws.FnExactNewCong", spec := "fnExactNewCong", apart := false }
def FnExactNewCongSaid : Prop := fnExactNewCongRow.holds Try.pinned (OpenSpec.ofChange fnExactNewCongSpec)

/-- ITS FALSE NEIGHBOUR: 'it returns false'. Refute it at one input. -/
def fnExactNewCongWrong : ChangeSpec := { name := "fnExactNewCong", fn := fun _ => fun
  | [d] => { results := [.lit (.bool false)], args := [d] }
  | _ => none }
def FnExactNewCongWrongFalsely : Prop := fnExactNewCongRow.holds Try.pinned (OpenSpec.ofChange fnExactNewCongWrong)

/-- 'laws.FnSettled': WHATEVER THE INPUT: true; the input reads as it did. -/
def fnSettledSpec : ChangeSpec := { name := "fnSettled", fn := fun _ => fun
  | [d] => { results := [.lit (.bool true)], args := [d] }
  | _ => none }
def fnSettledRow : OpenClaim := { program := "ytnnijikfppijfaa", sum := "ed55ea6ea1aafc1ff1d99018e9445836f3df8ac964301b6df13dfa3d74ece92d", func := "loop.example/g00003/laws.FnSettled", spec := "fnSettled", apart := false }
def FnSettledSaid : Prop := fnSettledRow.holds Try.pinned (OpenSpec.ofChange fnSettledSpec)

/-- ITS FALSE NEIGHBOUR: 'it returns false'. Refute it at one input. -/
def fnSettledWrong : ChangeSpec := { name := "fnSettled", fn := fun _ => fun
  | [d] => { results := [.lit (.bool false)], args := [d] }
  | _ => none }
def FnSettledWrongFalsely : Prop := fnSettledRow.holds Try.pinned (OpenSpec.ofChange fnSettledWrong)

/-- 'laws.FnExactRtoSample': WHATEVER THE INPUT: true; the input reads as it did. -/
def fnExactRtoSampleSpec : ChangeSpec := { name := "fnExactRtoSample", fn := fun _ => fun
  | [d1, d2] => { results := [.lit (.bool true)], args := [d1, d2] }
  | _ => none }
def fnExactRtoSampleRow : OpenClaim := { program := "ytnnijikfppijfaa", sum := "ed55ea6ea1aafc1ff1d99018e9445836f3df8ac964301b6df13dfa3d74ece92d", func := "loop.example/g00003/laws.FnExactRtoSample", spec := "fnExactRtoSample", apart := false }
def FnExactRtoSampleSaid : Prop := fnExactRtoSampleRow.holds Try.pinned (OpenSpec.ofChange fnExactRtoSampleSpec)

/-- ITS FALSE NEIGHBOUR: 'it returns false'. Refute it at one input. -/
def fnExactRtoSampleWrong : ChangeSpec := { name := "fnExactRtoSample", fn := fun _ => fun
  | [d1, d2] => { results := [.lit (.bool false)], args := [d1, d2] }
  | _ => none }
def FnExactRtoSampleWrongFalsely : Prop := fnExactRtoSampleRow.holds Try.pinned (OpenSpec.ofChange fnExactRtoSampleWrong)

/- THE SECOND FORM. 'bulk': how many values and letters a reading holds, each counted each time it is reached (what is shared counts as often as it is met; a slice's spare places count too). A statement '..UptoSaid' is the law's where the arguments, and the package variables that the reading takes, are together of bulk at most 1048576: NARROWER than '..Said'. Prove '..Said' where nothing that the law and all that it calls make is longer than what came in: it says more and counts as full. Else prove '..UptoSaid'. A law counts once. -/
mutual
def uptoBulk {H : Type} : DataW H → Nat
  | .lit (.string bytes) => bytes.length + 1
  | .lit _ => 1
  | .nil => 1
  | .ptr d => uptoBulk d + 1
  | .slice elems spare => uptoBulkAll elems + uptoBulkAll spare + 1
  | .agg parts => uptoBulkAll parts + 1
  | .iface _ d => uptoBulk d + 1
  | .map entries => uptoBulkEntries entries + 1
  | .held _ => 1
def uptoBulkAll {H : Type} : List (DataW H) → Nat
  | [] => 0
  | d :: r => uptoBulk d + uptoBulkAll r
def uptoBulkEntries {H : Type} : List (Lit × DataW H) → Nat
  | [] => 0
  | x :: r => uptoBulkEntry x + uptoBulkEntries r
def uptoBulkEntry {H : Type} : Lit × DataW H → Nat
  | (.string bytes, d) => bytes.length + uptoBulk d + 1
  | (_, d) => uptoBulk d + 1
 end
def uptoSmall : (H : Type) → List (DataW H) → Bool := fun _ ds => decide (uptoBulkAll ds ≤ 1048576)
def OpenSpec.upto (s : _root_.Go.ChangeSpec) : _root_.Go.OpenSpec := { _root_.Go.OpenSpec.ofChange s with cond := some uptoSmall }

/-- 'laws.FnExactNewRto', WHERE WHAT IT READS IS OF BULK AT MOST 1048576: true; the input reads as it did. -/
def fnExactNewRtoUptoRow : OpenClaim := { program := "ytnnijikfppijfaa", sum := "ed55ea6ea1aafc1ff1d99018e9445836f3df8ac964301b6df13dfa3d74ece92d", func := "loop.example/g00003/laws.FnExactNewRto", spec := "fnExactNewRto", apart := false, narrowed := true }
def FnExactNewRtoUptoSaid : Prop := fnExactNewRtoUptoRow.holds Try.pinned (OpenSpec.upto fnExactNewRtoSpec)

/-- 'laws.FnFair', WHERE WHAT IT READS IS OF BULK AT MOST 1048576: true; the input reads as it did. -/
def fnFairUptoRow : OpenClaim := { program := "ytnnijikfppijfaa", sum := "ed55ea6ea1aafc1ff1d99018e9445836f3df8ac964301b6df13dfa3d74ece92d", func := "loop.example/g00003/laws.FnFair", spec := "fnFair", inPlace := ["(*sync.WaitGroup).Add", "internal/race.ReleaseMerge", "internal/race.Disable", "internal/race.Enable", "internal/synctest.IsInBubble", "internal/synctest.Associate[sync.WaitGroup]", "sync.fatal", "sync/atomic.OrUint64", "sync/atomic.AddUint64", "internal/race.Read", "sync/atomic.LoadUint64", "sync/atomic.StoreUint64", "internal/synctest.Disassociate[sync.WaitGroup]", "sync.runtime_Semrelease", "(*sync.WaitGroup).Done", "(*sync.WaitGroup).Wait", "internal/race.Acquire", "internal/synctest.IsAssociated[sync.WaitGroup]", "sync/atomic.CompareAndSwapUint64", "internal/race.Write", "sync.runtime_SemacquireWaitGroup"], unfollowed := true, recurses := true, leaving := true, apart := false, narrowed := true }
def FnFairUptoSaid : Prop := fnFairUptoRow.holds Try.pinned (OpenSpec.upto fnFairSpec)

/-- 'laws.FnExactCongMss', WHERE WHAT IT READS IS OF BULK AT MOST 1048576: true; the input reads as it did. -/
def fnExactCongMssUptoRow : OpenClaim := { program := "ytnnijikfppijfaa", sum := "ed55ea6ea1aafc1ff1d99018e9445836f3df8ac964301b6df13dfa3d74ece92d", func := "loop.example/g00003/laws.FnExactCongMss", spec := "fnExactCongMss", unfollowed := true, recurses := true, leaving := true, apart := false, narrowed := true }
def FnExactCongMssUptoSaid : Prop := fnExactCongMssUptoRow.holds Try.pinned (OpenSpec.upto fnExactCongMssSpec)

/-- 'laws.FnExactNewCong', WHERE WHAT IT READS IS OF BULK AT MOST 1048576: true; the input reads as it did. -/
def fnExactNewCongUptoRow : OpenClaim := { program := "ytnnijikfppijfaa", sum := "ed55ea6ea1aafc1ff1d99018e9445836f3df8ac964301b6df13dfa3d74ece92d", func := "loop.example/g00003/laws.FnExactNewCong", spec := "fnExactNewCong", apart := false, narrowed := true }
def FnExactNewCongUptoSaid : Prop := fnExactNewCongUptoRow.holds Try.pinned (OpenSpec.upto fnExactNewCongSpec)

/-- 'laws.FnSettled', WHERE WHAT IT READS IS OF BULK AT MOST 1048576: true; the input reads as it did. -/
def fnSettledUptoRow : OpenClaim := { program := "ytnnijikfppijfaa", sum := "ed55ea6ea1aafc1ff1d99018e9445836f3df8ac964301b6df13dfa3d74ece92d", func := "loop.example/g00003/laws.FnSettled", spec := "fnSettled", apart := false, narrowed := true }
def FnSettledUptoSaid : Prop := fnSettledUptoRow.holds Try.pinned (OpenSpec.upto fnSettledSpec)

/-- 'laws.FnExactRtoSample', WHERE WHAT IT READS IS OF BULK AT MOST 1048576: true; the input reads as it did. -/
def fnExactRtoSampleUptoRow : OpenClaim := { program := "ytnnijikfppijfaa", sum := "ed55ea6ea1aafc1ff1d99018e9445836f3df8ac964301b6df13dfa3d74ece92d", func := "loop.example/g00003/laws.FnExactRtoSample", spec := "fnExactRtoSample", apart := false, narrowed := true }
def FnExactRtoSampleUptoSaid : Prop := fnExactRtoSampleUptoRow.holds Try.pinned (OpenSpec.upto fnExactRtoSampleSpec)

end Rows
end Go.Proofs.Ytnnijikfppijfaa
