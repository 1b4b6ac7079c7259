/-
Contracts of functions of this seat.
-/
import Derived.Test.YthbkhfiadkookaaGreatDoorRows
import Derived.WalkKit
import Derived.ProofKit
import Derived.OpenShut
import Derived.Deep.QuietTactic
import Derived.Below
import Derived.Laws.Externs
import Derived.OwnWalk
import Derived.BigQuiet
import Derived.ArgAppend
import Derived.RegionTactic
import Derived.ChangeAlike
import Derived.Laws.IdiomStrings
import Derived.Laws.BytesArg
import Derived.Deep.RegionHeld3
import Derived.Deep.CutRange
import Derived.LaidEql
import Derived.Stop.Asserts
import Derived.RowKitTokens
import Derived.Laws.CopyOwn
import Derived.Laws.OwnMore
import Derived.StillTailTactics
import Derived.Lib.QuietBelow
import Derived.Test.YthbkhfiadkookaaGreatDoorPc
namespace Go.Proofs.YthbkhfiadkookaaGreatDoor
open Go.ChangeShapes Go.WideShapes Go.ChangeAt Go.RowKit
set_option linter.unusedVariables false
set_option maxRecDepth 100000
set_option maxRecDepth 100000
set_option maxHeartbeats 4000000 in
theorem specCom_may (x0 x1 : Int) (x2 x3 : Bool) (x4 x5 x6 x7 x8 : Int) (a0 : Option Addr) (n0 c0 : Nat) (a1 : Option Addr) (n1 c1 : Nat) (from_ kind_ code_ rest_ : Int) (M : Bool) (w : World) (hM : M = false)
   (cM : ∀ W, Below w.heap.size w W → Calls Tryz.prog 7 #[.agg #[.int .i64 x0, .int .i64 x1, .bool x2, .bool x3, .int .i64 x4, .int .i64 x5, .int .i64 x6, .int .i64 x7, .int .i64 x8, .slice a0 n0 c0, .slice a1 n1 c1]] W fun e w' => e = .returned (.bool M) ∧ Below W.heap.size W w') :
    Calls Tryz.prog 5 #[.agg #[.int .i64 x0, .int .i64 x1, .bool x2, .bool x3, .int .i64 x4, .int .i64 x5, .int .i64 x6, .int .i64 x7, .int .i64 x8, .slice a0 n0 c0, .slice a1 n1 c1], .int .i64 from_, .int .i64 kind_, .int .i64 code_, .int .i64 rest_] w fun e w' => e = .returned (.tuple #[.agg #[.int .i64 0, .int .i64 0, .bool false, .bool false, .int .i64 0, .int .i64 0, .int .i64 0, .int .i64 0, .int .i64 0, .slice none 0 0, .slice none 0 0], .int .i64 1]) ∧ Below w.heap.size w w' := by
  have HT := hide (TwoB.start w (.cells #[.int .i64 x0, .int .i64 x1, .bool x2, .bool x3, .int .i64 x4, .int .i64 x5, .int .i64 x6, .int .i64 x7, .int .i64 x8, .slice a0 n0 c0, .slice a1 n1 c1] 24) (.cells #[.int .i64 0, .int .i64 0, .bool false, .bool false, .int .i64 0, .int .i64 0, .int .i64 0, .int .i64 0, .int .i64 0, .slice none 0 0, .slice none 0 0] 24))
  have CM := hide cM
  clear cM
  subst hM
  have p0 : ((w.alloc (.cells #[.int .i64 x0, .int .i64 x1, .bool x2, .bool x3, .int .i64 x4, .int .i64 x5, .int .i64 x6, .int .i64 x7, .int .i64 x8, .slice a0 n0 c0, .slice a1 n1 c1] 24)).alloc (.cells #[.int .i64 0, .int .i64 0, .bool false, .bool false, .int .i64 0, .int .i64 0, .int .i64 0, .int .i64 0, .int .i64 0, .slice none 0 0, .slice none 0 0] 24)).cell? ⟨w.heap.size, 0, none⟩ = some (.int .i64 x0) := cell_of_row _ _ 0 _ _ _ HT.out.2.1
  have p1 : ((w.alloc (.cells #[.int .i64 x0, .int .i64 x1, .bool x2, .bool x3, .int .i64 x4, .int .i64 x5, .int .i64 x6, .int .i64 x7, .int .i64 x8, .slice a0 n0 c0, .slice a1 n1 c1] 24)).alloc (.cells #[.int .i64 0, .int .i64 0, .bool false, .bool false, .int .i64 0, .int .i64 0, .int .i64 0, .int .i64 0, .int .i64 0, .slice none 0 0, .slice none 0 0] 24)).cell? ⟨w.heap.size, 1, none⟩ = some (.int .i64 x1) := cell_of_row _ _ 1 _ _ _ HT.out.2.1
  have p2 : ((w.alloc (.cells #[.int .i64 x0, .int .i64 x1, .bool x2, .bool x3, .int .i64 x4, .int .i64 x5, .int .i64 x6, .int .i64 x7, .int .i64 x8, .slice a0 n0 c0, .slice a1 n1 c1] 24)).alloc (.cells #[.int .i64 0, .int .i64 0, .bool false, .bool false, .int .i64 0, .int .i64 0, .int .i64 0, .int .i64 0, .int .i64 0, .slice none 0 0, .slice none 0 0] 24)).cell? ⟨w.heap.size, 2, none⟩ = some (.bool x2) := cell_of_row _ _ 2 _ _ _ HT.out.2.1
  have p3 : ((w.alloc (.cells #[.int .i64 x0, .int .i64 x1, .bool x2, .bool x3, .int .i64 x4, .int .i64 x5, .int .i64 x6, .int .i64 x7, .int .i64 x8, .slice a0 n0 c0, .slice a1 n1 c1] 24)).alloc (.cells #[.int .i64 0, .int .i64 0, .bool false, .bool false, .int .i64 0, .int .i64 0, .int .i64 0, .int .i64 0, .int .i64 0, .slice none 0 0, .slice none 0 0] 24)).cell? ⟨w.heap.size, 3, none⟩ = some (.bool x3) := cell_of_row _ _ 3 _ _ _ HT.out.2.1
  have p4 : ((w.alloc (.cells #[.int .i64 x0, .int .i64 x1, .bool x2, .bool x3, .int .i64 x4, .int .i64 x5, .int .i64 x6, .int .i64 x7, .int .i64 x8, .slice a0 n0 c0, .slice a1 n1 c1] 24)).alloc (.cells #[.int .i64 0, .int .i64 0, .bool false, .bool false, .int .i64 0, .int .i64 0, .int .i64 0, .int .i64 0, .int .i64 0, .slice none 0 0, .slice none 0 0] 24)).cell? ⟨w.heap.size, 4, none⟩ = some (.int .i64 x4) := cell_of_row _ _ 4 _ _ _ HT.out.2.1
  have p5 : ((w.alloc (.cells #[.int .i64 x0, .int .i64 x1, .bool x2, .bool x3, .int .i64 x4, .int .i64 x5, .int .i64 x6, .int .i64 x7, .int .i64 x8, .slice a0 n0 c0, .slice a1 n1 c1] 24)).alloc (.cells #[.int .i64 0, .int .i64 0, .bool false, .bool false, .int .i64 0, .int .i64 0, .int .i64 0, .int .i64 0, .int .i64 0, .slice none 0 0, .slice none 0 0] 24)).cell? ⟨w.heap.size, 5, none⟩ = some (.int .i64 x5) := cell_of_row _ _ 5 _ _ _ HT.out.2.1
  have p6 : ((w.alloc (.cells #[.int .i64 x0, .int .i64 x1, .bool x2, .bool x3, .int .i64 x4, .int .i64 x5, .int .i64 x6, .int .i64 x7, .int .i64 x8, .slice a0 n0 c0, .slice a1 n1 c1] 24)).alloc (.cells #[.int .i64 0, .int .i64 0, .bool false, .bool false, .int .i64 0, .int .i64 0, .int .i64 0, .int .i64 0, .int .i64 0, .slice none 0 0, .slice none 0 0] 24)).cell? ⟨w.heap.size, 6, none⟩ = some (.int .i64 x6) := cell_of_row _ _ 6 _ _ _ HT.out.2.1
  have p7 : ((w.alloc (.cells #[.int .i64 x0, .int .i64 x1, .bool x2, .bool x3, .int .i64 x4, .int .i64 x5, .int .i64 x6, .int .i64 x7, .int .i64 x8, .slice a0 n0 c0, .slice a1 n1 c1] 24)).alloc (.cells #[.int .i64 0, .int .i64 0, .bool false, .bool false, .int .i64 0, .int .i64 0, .int .i64 0, .int .i64 0, .int .i64 0, .slice none 0 0, .slice none 0 0] 24)).cell? ⟨w.heap.size, 7, none⟩ = some (.int .i64 x7) := cell_of_row _ _ 7 _ _ _ HT.out.2.1
  have p8 : ((w.alloc (.cells #[.int .i64 x0, .int .i64 x1, .bool x2, .bool x3, .int .i64 x4, .int .i64 x5, .int .i64 x6, .int .i64 x7, .int .i64 x8, .slice a0 n0 c0, .slice a1 n1 c1] 24)).alloc (.cells #[.int .i64 0, .int .i64 0, .bool false, .bool false, .int .i64 0, .int .i64 0, .int .i64 0, .int .i64 0, .int .i64 0, .slice none 0 0, .slice none 0 0] 24)).cell? ⟨w.heap.size, 8, none⟩ = some (.int .i64 x8) := cell_of_row _ _ 8 _ _ _ HT.out.2.1
  have p9 : ((w.alloc (.cells #[.int .i64 x0, .int .i64 x1, .bool x2, .bool x3, .int .i64 x4, .int .i64 x5, .int .i64 x6, .int .i64 x7, .int .i64 x8, .slice a0 n0 c0, .slice a1 n1 c1] 24)).alloc (.cells #[.int .i64 0, .int .i64 0, .bool false, .bool false, .int .i64 0, .int .i64 0, .int .i64 0, .int .i64 0, .int .i64 0, .slice none 0 0, .slice none 0 0] 24)).cell? ⟨w.heap.size, 9, none⟩ = some (.slice a0 n0 c0) := cell_of_row _ _ 9 _ _ _ HT.out.2.1
  have p10 : ((w.alloc (.cells #[.int .i64 x0, .int .i64 x1, .bool x2, .bool x3, .int .i64 x4, .int .i64 x5, .int .i64 x6, .int .i64 x7, .int .i64 x8, .slice a0 n0 c0, .slice a1 n1 c1] 24)).alloc (.cells #[.int .i64 0, .int .i64 0, .bool false, .bool false, .int .i64 0, .int .i64 0, .int .i64 0, .int .i64 0, .int .i64 0, .slice none 0 0, .slice none 0 0] 24)).cell? ⟨w.heap.size, 10, none⟩ = some (.slice a1 n1 c1) := cell_of_row _ _ 10 _ _ _ HT.out.2.1
  go_enter Tryz.func5, Tryz.ntmps5
  go_wp2_with fail
  generalize (w.alloc (.cells #[.int .i64 x0, .int .i64 x1, .bool x2, .bool x3, .int .i64 x4, .int .i64 x5, .int .i64 x6, .int .i64 x7, .int .i64 x8, .slice a0 n0 c0, .slice a1 n1 c1] 24)).alloc (.cells #[.int .i64 0, .int .i64 0, .bool false, .bool false, .int .i64 0, .int .i64 0, .int .i64 0, .int .i64 0, .int .i64 0, .slice none 0 0, .slice none 0 0] 24) = W0 at *
  clear p0 p1 p2 p3 p4 p5 p6 p7 p8 p9 p10
  refine (CM.out _ HT.out.1.1).mono ?_
  rintro e w1 ⟨rfl, hb⟩
  replace HT := hide (HT.out.next hb)
  clear hb
  have r0 : (w1).cell? ⟨w.heap.size + 1, 0, none⟩ = some (.int .i64 0) := cell_of_row _ _ 0 _ _ _ HT.out.2.2
  have r1 : (w1).cell? ⟨w.heap.size + 1, 1, none⟩ = some (.int .i64 0) := cell_of_row _ _ 1 _ _ _ HT.out.2.2
  have r2 : (w1).cell? ⟨w.heap.size + 1, 2, none⟩ = some (.bool false) := cell_of_row _ _ 2 _ _ _ HT.out.2.2
  have r3 : (w1).cell? ⟨w.heap.size + 1, 3, none⟩ = some (.bool false) := cell_of_row _ _ 3 _ _ _ HT.out.2.2
  have r4 : (w1).cell? ⟨w.heap.size + 1, 4, none⟩ = some (.int .i64 0) := cell_of_row _ _ 4 _ _ _ HT.out.2.2
  have r5 : (w1).cell? ⟨w.heap.size + 1, 5, none⟩ = some (.int .i64 0) := cell_of_row _ _ 5 _ _ _ HT.out.2.2
  have r6 : (w1).cell? ⟨w.heap.size + 1, 6, none⟩ = some (.int .i64 0) := cell_of_row _ _ 6 _ _ _ HT.out.2.2
  have r7 : (w1).cell? ⟨w.heap.size + 1, 7, none⟩ = some (.int .i64 0) := cell_of_row _ _ 7 _ _ _ HT.out.2.2
  have r8 : (w1).cell? ⟨w.heap.size + 1, 8, none⟩ = some (.int .i64 0) := cell_of_row _ _ 8 _ _ _ HT.out.2.2
  have r9 : (w1).cell? ⟨w.heap.size + 1, 9, none⟩ = some (.slice none 0 0) := cell_of_row _ _ 9 _ _ _ HT.out.2.2
  have r10 : (w1).cell? ⟨w.heap.size + 1, 10, none⟩ = some (.slice none 0 0) := cell_of_row _ _ 10 _ _ _ HT.out.2.2
  have rf : ∀ q, w1.frozen? ⟨w.heap.size + 1, q, none⟩ = false := fun q => frozen_of_row _ _ q _ _ HT.out.2.2
  go_wp2_with (first | (go_at_call 18; refine (specAddrOK_walk _ _).mono ?_; rintro e w' ⟨rfl, rfl⟩) | (go_at_call 19; refine (In_walk _ _ _ _).mono ?_; rintro e w' ⟨rfl, rfl⟩))
  exact bodyPost_ret (v := .tuple #[.agg #[.int .i64 0, .int .i64 0, .bool false, .bool false, .int .i64 0, .int .i64 0, .int .i64 0, .int .i64 0, .int .i64 0, .slice none 0 0, .slice none 0 0], .int .i64 1]) (by simp [results, Tryz.results5, go_sem, r0, r1, r2, r3, r4, r5, r6, r7, r8, r9, r10]) rfl ⟨rfl, (below_11n HT.out.1.1 (Nat.le_succ _))⟩
set_option maxHeartbeats 4000000 in
theorem specCom_from (x0 x1 : Int) (x2 x3 : Bool) (x4 x5 x6 x7 x8 : Int) (a0 : Option Addr) (n0 c0 : Nat) (a1 : Option Addr) (n1 c1 : Nat) (from_ kind_ code_ rest_ : Int) (M : Bool) (w : World) (hM : M = true) (h1 : adrB from_ = false)
   (cM : ∀ W, Below w.heap.size w W → Calls Tryz.prog 7 #[.agg #[.int .i64 x0, .int .i64 x1, .bool x2, .bool x3, .int .i64 x4, .int .i64 x5, .int .i64 x6, .int .i64 x7, .int .i64 x8, .slice a0 n0 c0, .slice a1 n1 c1]] W fun e w' => e = .returned (.bool M) ∧ Below W.heap.size W w') :
    Calls Tryz.prog 5 #[.agg #[.int .i64 x0, .int .i64 x1, .bool x2, .bool x3, .int .i64 x4, .int .i64 x5, .int .i64 x6, .int .i64 x7, .int .i64 x8, .slice a0 n0 c0, .slice a1 n1 c1], .int .i64 from_, .int .i64 kind_, .int .i64 code_, .int .i64 rest_] w fun e w' => e = .returned (.tuple #[.agg #[.int .i64 0, .int .i64 0, .bool false, .bool false, .int .i64 0, .int .i64 0, .int .i64 0, .int .i64 0, .int .i64 0, .slice none 0 0, .slice none 0 0], .int .i64 1]) ∧ Below w.heap.size w w' := by
  have HT := hide (TwoB.start w (.cells #[.int .i64 x0, .int .i64 x1, .bool x2, .bool x3, .int .i64 x4, .int .i64 x5, .int .i64 x6, .int .i64 x7, .int .i64 x8, .slice a0 n0 c0, .slice a1 n1 c1] 24) (.cells #[.int .i64 0, .int .i64 0, .bool false, .bool false, .int .i64 0, .int .i64 0, .int .i64 0, .int .i64 0, .int .i64 0, .slice none 0 0, .slice none 0 0] 24))
  have CM := hide cM
  clear cM
  subst hM
  have p0 : ((w.alloc (.cells #[.int .i64 x0, .int .i64 x1, .bool x2, .bool x3, .int .i64 x4, .int .i64 x5, .int .i64 x6, .int .i64 x7, .int .i64 x8, .slice a0 n0 c0, .slice a1 n1 c1] 24)).alloc (.cells #[.int .i64 0, .int .i64 0, .bool false, .bool false, .int .i64 0, .int .i64 0, .int .i64 0, .int .i64 0, .int .i64 0, .slice none 0 0, .slice none 0 0] 24)).cell? ⟨w.heap.size, 0, none⟩ = some (.int .i64 x0) := cell_of_row _ _ 0 _ _ _ HT.out.2.1
  have p1 : ((w.alloc (.cells #[.int .i64 x0, .int .i64 x1, .bool x2, .bool x3, .int .i64 x4, .int .i64 x5, .int .i64 x6, .int .i64 x7, .int .i64 x8, .slice a0 n0 c0, .slice a1 n1 c1] 24)).alloc (.cells #[.int .i64 0, .int .i64 0, .bool false, .bool false, .int .i64 0, .int .i64 0, .int .i64 0, .int .i64 0, .int .i64 0, .slice none 0 0, .slice none 0 0] 24)).cell? ⟨w.heap.size, 1, none⟩ = some (.int .i64 x1) := cell_of_row _ _ 1 _ _ _ HT.out.2.1
  have p2 : ((w.alloc (.cells #[.int .i64 x0, .int .i64 x1, .bool x2, .bool x3, .int .i64 x4, .int .i64 x5, .int .i64 x6, .int .i64 x7, .int .i64 x8, .slice a0 n0 c0, .slice a1 n1 c1] 24)).alloc (.cells #[.int .i64 0, .int .i64 0, .bool false, .bool false, .int .i64 0, .int .i64 0, .int .i64 0, .int .i64 0, .int .i64 0, .slice none 0 0, .slice none 0 0] 24)).cell? ⟨w.heap.size, 2, none⟩ = some (.bool x2) := cell_of_row _ _ 2 _ _ _ HT.out.2.1
  have p3 : ((w.alloc (.cells #[.int .i64 x0, .int .i64 x1, .bool x2, .bool x3, .int .i64 x4, .int .i64 x5, .int .i64 x6, .int .i64 x7, .int .i64 x8, .slice a0 n0 c0, .slice a1 n1 c1] 24)).alloc (.cells #[.int .i64 0, .int .i64 0, .bool false, .bool false, .int .i64 0, .int .i64 0, .int .i64 0, .int .i64 0, .int .i64 0, .slice none 0 0, .slice none 0 0] 24)).cell? ⟨w.heap.size, 3, none⟩ = some (.bool x3) := cell_of_row _ _ 3 _ _ _ HT.out.2.1
  have p4 : ((w.alloc (.cells #[.int .i64 x0, .int .i64 x1, .bool x2, .bool x3, .int .i64 x4, .int .i64 x5, .int .i64 x6, .int .i64 x7, .int .i64 x8, .slice a0 n0 c0, .slice a1 n1 c1] 24)).alloc (.cells #[.int .i64 0, .int .i64 0, .bool false, .bool false, .int .i64 0, .int .i64 0, .int .i64 0, .int .i64 0, .int .i64 0, .slice none 0 0, .slice none 0 0] 24)).cell? ⟨w.heap.size, 4, none⟩ = some (.int .i64 x4) := cell_of_row _ _ 4 _ _ _ HT.out.2.1
  have p5 : ((w.alloc (.cells #[.int .i64 x0, .int .i64 x1, .bool x2, .bool x3, .int .i64 x4, .int .i64 x5, .int .i64 x6, .int .i64 x7, .int .i64 x8, .slice a0 n0 c0, .slice a1 n1 c1] 24)).alloc (.cells #[.int .i64 0, .int .i64 0, .bool false, .bool false, .int .i64 0, .int .i64 0, .int .i64 0, .int .i64 0, .int .i64 0, .slice none 0 0, .slice none 0 0] 24)).cell? ⟨w.heap.size, 5, none⟩ = some (.int .i64 x5) := cell_of_row _ _ 5 _ _ _ HT.out.2.1
  have p6 : ((w.alloc (.cells #[.int .i64 x0, .int .i64 x1, .bool x2, .bool x3, .int .i64 x4, .int .i64 x5, .int .i64 x6, .int .i64 x7, .int .i64 x8, .slice a0 n0 c0, .slice a1 n1 c1] 24)).alloc (.cells #[.int .i64 0, .int .i64 0, .bool false, .bool false, .int .i64 0, .int .i64 0, .int .i64 0, .int .i64 0, .int .i64 0, .slice none 0 0, .slice none 0 0] 24)).cell? ⟨w.heap.size, 6, none⟩ = some (.int .i64 x6) := cell_of_row _ _ 6 _ _ _ HT.out.2.1
  have p7 : ((w.alloc (.cells #[.int .i64 x0, .int .i64 x1, .bool x2, .bool x3, .int .i64 x4, .int .i64 x5, .int .i64 x6, .int .i64 x7, .int .i64 x8, .slice a0 n0 c0, .slice a1 n1 c1] 24)).alloc (.cells #[.int .i64 0, .int .i64 0, .bool false, .bool false, .int .i64 0, .int .i64 0, .int .i64 0, .int .i64 0, .int .i64 0, .slice none 0 0, .slice none 0 0] 24)).cell? ⟨w.heap.size, 7, none⟩ = some (.int .i64 x7) := cell_of_row _ _ 7 _ _ _ HT.out.2.1
  have p8 : ((w.alloc (.cells #[.int .i64 x0, .int .i64 x1, .bool x2, .bool x3, .int .i64 x4, .int .i64 x5, .int .i64 x6, .int .i64 x7, .int .i64 x8, .slice a0 n0 c0, .slice a1 n1 c1] 24)).alloc (.cells #[.int .i64 0, .int .i64 0, .bool false, .bool false, .int .i64 0, .int .i64 0, .int .i64 0, .int .i64 0, .int .i64 0, .slice none 0 0, .slice none 0 0] 24)).cell? ⟨w.heap.size, 8, none⟩ = some (.int .i64 x8) := cell_of_row _ _ 8 _ _ _ HT.out.2.1
  have p9 : ((w.alloc (.cells #[.int .i64 x0, .int .i64 x1, .bool x2, .bool x3, .int .i64 x4, .int .i64 x5, .int .i64 x6, .int .i64 x7, .int .i64 x8, .slice a0 n0 c0, .slice a1 n1 c1] 24)).alloc (.cells #[.int .i64 0, .int .i64 0, .bool false, .bool false, .int .i64 0, .int .i64 0, .int .i64 0, .int .i64 0, .int .i64 0, .slice none 0 0, .slice none 0 0] 24)).cell? ⟨w.heap.size, 9, none⟩ = some (.slice a0 n0 c0) := cell_of_row _ _ 9 _ _ _ HT.out.2.1
  have p10 : ((w.alloc (.cells #[.int .i64 x0, .int .i64 x1, .bool x2, .bool x3, .int .i64 x4, .int .i64 x5, .int .i64 x6, .int .i64 x7, .int .i64 x8, .slice a0 n0 c0, .slice a1 n1 c1] 24)).alloc (.cells #[.int .i64 0, .int .i64 0, .bool false, .bool false, .int .i64 0, .int .i64 0, .int .i64 0, .int .i64 0, .int .i64 0, .slice none 0 0, .slice none 0 0] 24)).cell? ⟨w.heap.size, 10, none⟩ = some (.slice a1 n1 c1) := cell_of_row _ _ 10 _ _ _ HT.out.2.1
  go_enter Tryz.func5, Tryz.ntmps5
  go_wp2_with fail
  generalize (w.alloc (.cells #[.int .i64 x0, .int .i64 x1, .bool x2, .bool x3, .int .i64 x4, .int .i64 x5, .int .i64 x6, .int .i64 x7, .int .i64 x8, .slice a0 n0 c0, .slice a1 n1 c1] 24)).alloc (.cells #[.int .i64 0, .int .i64 0, .bool false, .bool false, .int .i64 0, .int .i64 0, .int .i64 0, .int .i64 0, .int .i64 0, .slice none 0 0, .slice none 0 0] 24) = W0 at *
  clear p0 p1 p2 p3 p4 p5 p6 p7 p8 p9 p10
  refine (CM.out _ HT.out.1.1).mono ?_
  rintro e w1 ⟨rfl, hb⟩
  replace HT := hide (HT.out.next hb)
  clear hb
  have r0 : (w1).cell? ⟨w.heap.size + 1, 0, none⟩ = some (.int .i64 0) := cell_of_row _ _ 0 _ _ _ HT.out.2.2
  have r1 : (w1).cell? ⟨w.heap.size + 1, 1, none⟩ = some (.int .i64 0) := cell_of_row _ _ 1 _ _ _ HT.out.2.2
  have r2 : (w1).cell? ⟨w.heap.size + 1, 2, none⟩ = some (.bool false) := cell_of_row _ _ 2 _ _ _ HT.out.2.2
  have r3 : (w1).cell? ⟨w.heap.size + 1, 3, none⟩ = some (.bool false) := cell_of_row _ _ 3 _ _ _ HT.out.2.2
  have r4 : (w1).cell? ⟨w.heap.size + 1, 4, none⟩ = some (.int .i64 0) := cell_of_row _ _ 4 _ _ _ HT.out.2.2
  have r5 : (w1).cell? ⟨w.heap.size + 1, 5, none⟩ = some (.int .i64 0) := cell_of_row _ _ 5 _ _ _ HT.out.2.2
  have r6 : (w1).cell? ⟨w.heap.size + 1, 6, none⟩ = some (.int .i64 0) := cell_of_row _ _ 6 _ _ _ HT.out.2.2
  have r7 : (w1).cell? ⟨w.heap.size + 1, 7, none⟩ = some (.int .i64 0) := cell_of_row _ _ 7 _ _ _ HT.out.2.2
  have r8 : (w1).cell? ⟨w.heap.size + 1, 8, none⟩ = some (.int .i64 0) := cell_of_row _ _ 8 _ _ _ HT.out.2.2
  have r9 : (w1).cell? ⟨w.heap.size + 1, 9, none⟩ = some (.slice none 0 0) := cell_of_row _ _ 9 _ _ _ HT.out.2.2
  have r10 : (w1).cell? ⟨w.heap.size + 1, 10, none⟩ = some (.slice none 0 0) := cell_of_row _ _ 10 _ _ _ HT.out.2.2
  have rf : ∀ q, w1.frozen? ⟨w.heap.size + 1, q, none⟩ = false := fun q => frozen_of_row _ _ q _ _ HT.out.2.2
  go_wp2_with (first | (go_at_call 18; refine (specAddrOK_walk _ _).mono ?_; rintro e w' ⟨rfl, rfl⟩) | (go_at_call 19; refine (In_walk _ _ _ _).mono ?_; rintro e w' ⟨rfl, rfl⟩))
  exact bodyPost_ret (v := .tuple #[.agg #[.int .i64 0, .int .i64 0, .bool false, .bool false, .int .i64 0, .int .i64 0, .int .i64 0, .int .i64 0, .int .i64 0, .slice none 0 0, .slice none 0 0], .int .i64 1]) (by simp [results, Tryz.results5, go_sem, r0, r1, r2, r3, r4, r5, r6, r7, r8, r9, r10]) rfl ⟨rfl, (below_11n HT.out.1.1 (Nat.le_succ _))⟩
set_option maxHeartbeats 4000000 in
theorem specCom_kind (x0 x1 : Int) (x2 x3 : Bool) (x4 x5 x6 x7 x8 : Int) (a0 : Option Addr) (n0 c0 : Nat) (a1 : Option Addr) (n1 c1 : Nat) (from_ kind_ code_ rest_ : Int) (M : Bool) (w : World) (hM : M = true) (h1 : adrB from_ = true) (h2 : ¬ kind_ = 3) (h3 : ¬ kind_ = 11)
   (cM : ∀ W, Below w.heap.size w W → Calls Tryz.prog 7 #[.agg #[.int .i64 x0, .int .i64 x1, .bool x2, .bool x3, .int .i64 x4, .int .i64 x5, .int .i64 x6, .int .i64 x7, .int .i64 x8, .slice a0 n0 c0, .slice a1 n1 c1]] W fun e w' => e = .returned (.bool M) ∧ Below W.heap.size W w') :
    Calls Tryz.prog 5 #[.agg #[.int .i64 x0, .int .i64 x1, .bool x2, .bool x3, .int .i64 x4, .int .i64 x5, .int .i64 x6, .int .i64 x7, .int .i64 x8, .slice a0 n0 c0, .slice a1 n1 c1], .int .i64 from_, .int .i64 kind_, .int .i64 code_, .int .i64 rest_] w fun e w' => e = .returned (.tuple #[.agg #[.int .i64 0, .int .i64 0, .bool false, .bool false, .int .i64 0, .int .i64 0, .int .i64 0, .int .i64 0, .int .i64 0, .slice none 0 0, .slice none 0 0], .int .i64 1]) ∧ Below w.heap.size w w' := by
  have HT := hide (TwoB.start w (.cells #[.int .i64 x0, .int .i64 x1, .bool x2, .bool x3, .int .i64 x4, .int .i64 x5, .int .i64 x6, .int .i64 x7, .int .i64 x8, .slice a0 n0 c0, .slice a1 n1 c1] 24) (.cells #[.int .i64 0, .int .i64 0, .bool false, .bool false, .int .i64 0, .int .i64 0, .int .i64 0, .int .i64 0, .int .i64 0, .slice none 0 0, .slice none 0 0] 24))
  have CM := hide cM
  clear cM
  subst hM
  have p0 : ((w.alloc (.cells #[.int .i64 x0, .int .i64 x1, .bool x2, .bool x3, .int .i64 x4, .int .i64 x5, .int .i64 x6, .int .i64 x7, .int .i64 x8, .slice a0 n0 c0, .slice a1 n1 c1] 24)).alloc (.cells #[.int .i64 0, .int .i64 0, .bool false, .bool false, .int .i64 0, .int .i64 0, .int .i64 0, .int .i64 0, .int .i64 0, .slice none 0 0, .slice none 0 0] 24)).cell? ⟨w.heap.size, 0, none⟩ = some (.int .i64 x0) := cell_of_row _ _ 0 _ _ _ HT.out.2.1
  have p1 : ((w.alloc (.cells #[.int .i64 x0, .int .i64 x1, .bool x2, .bool x3, .int .i64 x4, .int .i64 x5, .int .i64 x6, .int .i64 x7, .int .i64 x8, .slice a0 n0 c0, .slice a1 n1 c1] 24)).alloc (.cells #[.int .i64 0, .int .i64 0, .bool false, .bool false, .int .i64 0, .int .i64 0, .int .i64 0, .int .i64 0, .int .i64 0, .slice none 0 0, .slice none 0 0] 24)).cell? ⟨w.heap.size, 1, none⟩ = some (.int .i64 x1) := cell_of_row _ _ 1 _ _ _ HT.out.2.1
  have p2 : ((w.alloc (.cells #[.int .i64 x0, .int .i64 x1, .bool x2, .bool x3, .int .i64 x4, .int .i64 x5, .int .i64 x6, .int .i64 x7, .int .i64 x8, .slice a0 n0 c0, .slice a1 n1 c1] 24)).alloc (.cells #[.int .i64 0, .int .i64 0, .bool false, .bool false, .int .i64 0, .int .i64 0, .int .i64 0, .int .i64 0, .int .i64 0, .slice none 0 0, .slice none 0 0] 24)).cell? ⟨w.heap.size, 2, none⟩ = some (.bool x2) := cell_of_row _ _ 2 _ _ _ HT.out.2.1
  have p3 : ((w.alloc (.cells #[.int .i64 x0, .int .i64 x1, .bool x2, .bool x3, .int .i64 x4, .int .i64 x5, .int .i64 x6, .int .i64 x7, .int .i64 x8, .slice a0 n0 c0, .slice a1 n1 c1] 24)).alloc (.cells #[.int .i64 0, .int .i64 0, .bool false, .bool false, .int .i64 0, .int .i64 0, .int .i64 0, .int .i64 0, .int .i64 0, .slice none 0 0, .slice none 0 0] 24)).cell? ⟨w.heap.size, 3, none⟩ = some (.bool x3) := cell_of_row _ _ 3 _ _ _ HT.out.2.1
  have p4 : ((w.alloc (.cells #[.int .i64 x0, .int .i64 x1, .bool x2, .bool x3, .int .i64 x4, .int .i64 x5, .int .i64 x6, .int .i64 x7, .int .i64 x8, .slice a0 n0 c0, .slice a1 n1 c1] 24)).alloc (.cells #[.int .i64 0, .int .i64 0, .bool false, .bool false, .int .i64 0, .int .i64 0, .int .i64 0, .int .i64 0, .int .i64 0, .slice none 0 0, .slice none 0 0] 24)).cell? ⟨w.heap.size, 4, none⟩ = some (.int .i64 x4) := cell_of_row _ _ 4 _ _ _ HT.out.2.1
  have p5 : ((w.alloc (.cells #[.int .i64 x0, .int .i64 x1, .bool x2, .bool x3, .int .i64 x4, .int .i64 x5, .int .i64 x6, .int .i64 x7, .int .i64 x8, .slice a0 n0 c0, .slice a1 n1 c1] 24)).alloc (.cells #[.int .i64 0, .int .i64 0, .bool false, .bool false, .int .i64 0, .int .i64 0, .int .i64 0, .int .i64 0, .int .i64 0, .slice none 0 0, .slice none 0 0] 24)).cell? ⟨w.heap.size, 5, none⟩ = some (.int .i64 x5) := cell_of_row _ _ 5 _ _ _ HT.out.2.1
  have p6 : ((w.alloc (.cells #[.int .i64 x0, .int .i64 x1, .bool x2, .bool x3, .int .i64 x4, .int .i64 x5, .int .i64 x6, .int .i64 x7, .int .i64 x8, .slice a0 n0 c0, .slice a1 n1 c1] 24)).alloc (.cells #[.int .i64 0, .int .i64 0, .bool false, .bool false, .int .i64 0, .int .i64 0, .int .i64 0, .int .i64 0, .int .i64 0, .slice none 0 0, .slice none 0 0] 24)).cell? ⟨w.heap.size, 6, none⟩ = some (.int .i64 x6) := cell_of_row _ _ 6 _ _ _ HT.out.2.1
  have p7 : ((w.alloc (.cells #[.int .i64 x0, .int .i64 x1, .bool x2, .bool x3, .int .i64 x4, .int .i64 x5, .int .i64 x6, .int .i64 x7, .int .i64 x8, .slice a0 n0 c0, .slice a1 n1 c1] 24)).alloc (.cells #[.int .i64 0, .int .i64 0, .bool false, .bool false, .int .i64 0, .int .i64 0, .int .i64 0, .int .i64 0, .int .i64 0, .slice none 0 0, .slice none 0 0] 24)).cell? ⟨w.heap.size, 7, none⟩ = some (.int .i64 x7) := cell_of_row _ _ 7 _ _ _ HT.out.2.1
  have p8 : ((w.alloc (.cells #[.int .i64 x0, .int .i64 x1, .bool x2, .bool x3, .int .i64 x4, .int .i64 x5, .int .i64 x6, .int .i64 x7, .int .i64 x8, .slice a0 n0 c0, .slice a1 n1 c1] 24)).alloc (.cells #[.int .i64 0, .int .i64 0, .bool false, .bool false, .int .i64 0, .int .i64 0, .int .i64 0, .int .i64 0, .int .i64 0, .slice none 0 0, .slice none 0 0] 24)).cell? ⟨w.heap.size, 8, none⟩ = some (.int .i64 x8) := cell_of_row _ _ 8 _ _ _ HT.out.2.1
  have p9 : ((w.alloc (.cells #[.int .i64 x0, .int .i64 x1, .bool x2, .bool x3, .int .i64 x4, .int .i64 x5, .int .i64 x6, .int .i64 x7, .int .i64 x8, .slice a0 n0 c0, .slice a1 n1 c1] 24)).alloc (.cells #[.int .i64 0, .int .i64 0, .bool false, .bool false, .int .i64 0, .int .i64 0, .int .i64 0, .int .i64 0, .int .i64 0, .slice none 0 0, .slice none 0 0] 24)).cell? ⟨w.heap.size, 9, none⟩ = some (.slice a0 n0 c0) := cell_of_row _ _ 9 _ _ _ HT.out.2.1
  have p10 : ((w.alloc (.cells #[.int .i64 x0, .int .i64 x1, .bool x2, .bool x3, .int .i64 x4, .int .i64 x5, .int .i64 x6, .int .i64 x7, .int .i64 x8, .slice a0 n0 c0, .slice a1 n1 c1] 24)).alloc (.cells #[.int .i64 0, .int .i64 0, .bool false, .bool false, .int .i64 0, .int .i64 0, .int .i64 0, .int .i64 0, .int .i64 0, .slice none 0 0, .slice none 0 0] 24)).cell? ⟨w.heap.size, 10, none⟩ = some (.slice a1 n1 c1) := cell_of_row _ _ 10 _ _ _ HT.out.2.1
  go_enter Tryz.func5, Tryz.ntmps5
  go_wp2_with fail
  generalize (w.alloc (.cells #[.int .i64 x0, .int .i64 x1, .bool x2, .bool x3, .int .i64 x4, .int .i64 x5, .int .i64 x6, .int .i64 x7, .int .i64 x8, .slice a0 n0 c0, .slice a1 n1 c1] 24)).alloc (.cells #[.int .i64 0, .int .i64 0, .bool false, .bool false, .int .i64 0, .int .i64 0, .int .i64 0, .int .i64 0, .int .i64 0, .slice none 0 0, .slice none 0 0] 24) = W0 at *
  clear p0 p1 p2 p3 p4 p5 p6 p7 p8 p9 p10
  refine (CM.out _ HT.out.1.1).mono ?_
  rintro e w1 ⟨rfl, hb⟩
  replace HT := hide (HT.out.next hb)
  clear hb
  have r0 : (w1).cell? ⟨w.heap.size + 1, 0, none⟩ = some (.int .i64 0) := cell_of_row _ _ 0 _ _ _ HT.out.2.2
  have r1 : (w1).cell? ⟨w.heap.size + 1, 1, none⟩ = some (.int .i64 0) := cell_of_row _ _ 1 _ _ _ HT.out.2.2
  have r2 : (w1).cell? ⟨w.heap.size + 1, 2, none⟩ = some (.bool false) := cell_of_row _ _ 2 _ _ _ HT.out.2.2
  have r3 : (w1).cell? ⟨w.heap.size + 1, 3, none⟩ = some (.bool false) := cell_of_row _ _ 3 _ _ _ HT.out.2.2
  have r4 : (w1).cell? ⟨w.heap.size + 1, 4, none⟩ = some (.int .i64 0) := cell_of_row _ _ 4 _ _ _ HT.out.2.2
  have r5 : (w1).cell? ⟨w.heap.size + 1, 5, none⟩ = some (.int .i64 0) := cell_of_row _ _ 5 _ _ _ HT.out.2.2
  have r6 : (w1).cell? ⟨w.heap.size + 1, 6, none⟩ = some (.int .i64 0) := cell_of_row _ _ 6 _ _ _ HT.out.2.2
  have r7 : (w1).cell? ⟨w.heap.size + 1, 7, none⟩ = some (.int .i64 0) := cell_of_row _ _ 7 _ _ _ HT.out.2.2
  have r8 : (w1).cell? ⟨w.heap.size + 1, 8, none⟩ = some (.int .i64 0) := cell_of_row _ _ 8 _ _ _ HT.out.2.2
  have r9 : (w1).cell? ⟨w.heap.size + 1, 9, none⟩ = some (.slice none 0 0) := cell_of_row _ _ 9 _ _ _ HT.out.2.2
  have r10 : (w1).cell? ⟨w.heap.size + 1, 10, none⟩ = some (.slice none 0 0) := cell_of_row _ _ 10 _ _ _ HT.out.2.2
  have rf : ∀ q, w1.frozen? ⟨w.heap.size + 1, q, none⟩ = false := fun q => frozen_of_row _ _ q _ _ HT.out.2.2
  go_wp2_with (first | (go_at_call 18; refine (specAddrOK_walk _ _).mono ?_; rintro e w' ⟨rfl, rfl⟩) | (go_at_call 19; refine (In_walk _ _ _ _).mono ?_; rintro e w' ⟨rfl, rfl⟩))
  exact bodyPost_ret (v := .tuple #[.agg #[.int .i64 0, .int .i64 0, .bool false, .bool false, .int .i64 0, .int .i64 0, .int .i64 0, .int .i64 0, .int .i64 0, .slice none 0 0, .slice none 0 0], .int .i64 1]) (by simp [results, Tryz.results5, go_sem, r0, r1, r2, r3, r4, r5, r6, r7, r8, r9, r10]) rfl ⟨rfl, (below_11n HT.out.1.1 (Nat.le_succ _))⟩
set_option maxHeartbeats 4000000 in
theorem specCom_code3 (x0 x1 : Int) (x2 x3 : Bool) (x4 x5 x6 x7 x8 : Int) (a0 : Option Addr) (n0 c0 : Nat) (a1 : Option Addr) (n1 c1 : Nat) (from_ kind_ code_ rest_ : Int) (M : Bool) (w : World) (hM : M = true) (h1 : adrB from_ = true) (h3 : inB code_ 0 255 = false) (hk : kind_ = 3)
   (cM : ∀ W, Below w.heap.size w W → Calls Tryz.prog 7 #[.agg #[.int .i64 x0, .int .i64 x1, .bool x2, .bool x3, .int .i64 x4, .int .i64 x5, .int .i64 x6, .int .i64 x7, .int .i64 x8, .slice a0 n0 c0, .slice a1 n1 c1]] W fun e w' => e = .returned (.bool M) ∧ Below W.heap.size W w') :
    Calls Tryz.prog 5 #[.agg #[.int .i64 x0, .int .i64 x1, .bool x2, .bool x3, .int .i64 x4, .int .i64 x5, .int .i64 x6, .int .i64 x7, .int .i64 x8, .slice a0 n0 c0, .slice a1 n1 c1], .int .i64 from_, .int .i64 kind_, .int .i64 code_, .int .i64 rest_] w fun e w' => e = .returned (.tuple #[.agg #[.int .i64 0, .int .i64 0, .bool false, .bool false, .int .i64 0, .int .i64 0, .int .i64 0, .int .i64 0, .int .i64 0, .slice none 0 0, .slice none 0 0], .int .i64 1]) ∧ Below w.heap.size w w' := by
  have HT := hide (TwoB.start w (.cells #[.int .i64 x0, .int .i64 x1, .bool x2, .bool x3, .int .i64 x4, .int .i64 x5, .int .i64 x6, .int .i64 x7, .int .i64 x8, .slice a0 n0 c0, .slice a1 n1 c1] 24) (.cells #[.int .i64 0, .int .i64 0, .bool false, .bool false, .int .i64 0, .int .i64 0, .int .i64 0, .int .i64 0, .int .i64 0, .slice none 0 0, .slice none 0 0] 24))
  have CM := hide cM
  clear cM
  subst hM hk
  have p0 : ((w.alloc (.cells #[.int .i64 x0, .int .i64 x1, .bool x2, .bool x3, .int .i64 x4, .int .i64 x5, .int .i64 x6, .int .i64 x7, .int .i64 x8, .slice a0 n0 c0, .slice a1 n1 c1] 24)).alloc (.cells #[.int .i64 0, .int .i64 0, .bool false, .bool false, .int .i64 0, .int .i64 0, .int .i64 0, .int .i64 0, .int .i64 0, .slice none 0 0, .slice none 0 0] 24)).cell? ⟨w.heap.size, 0, none⟩ = some (.int .i64 x0) := cell_of_row _ _ 0 _ _ _ HT.out.2.1
  have p1 : ((w.alloc (.cells #[.int .i64 x0, .int .i64 x1, .bool x2, .bool x3, .int .i64 x4, .int .i64 x5, .int .i64 x6, .int .i64 x7, .int .i64 x8, .slice a0 n0 c0, .slice a1 n1 c1] 24)).alloc (.cells #[.int .i64 0, .int .i64 0, .bool false, .bool false, .int .i64 0, .int .i64 0, .int .i64 0, .int .i64 0, .int .i64 0, .slice none 0 0, .slice none 0 0] 24)).cell? ⟨w.heap.size, 1, none⟩ = some (.int .i64 x1) := cell_of_row _ _ 1 _ _ _ HT.out.2.1
  have p2 : ((w.alloc (.cells #[.int .i64 x0, .int .i64 x1, .bool x2, .bool x3, .int .i64 x4, .int .i64 x5, .int .i64 x6, .int .i64 x7, .int .i64 x8, .slice a0 n0 c0, .slice a1 n1 c1] 24)).alloc (.cells #[.int .i64 0, .int .i64 0, .bool false, .bool false, .int .i64 0, .int .i64 0, .int .i64 0, .int .i64 0, .int .i64 0, .slice none 0 0, .slice none 0 0] 24)).cell? ⟨w.heap.size, 2, none⟩ = some (.bool x2) := cell_of_row _ _ 2 _ _ _ HT.out.2.1
  have p3 : ((w.alloc (.cells #[.int .i64 x0, .int .i64 x1, .bool x2, .bool x3, .int .i64 x4, .int .i64 x5, .int .i64 x6, .int .i64 x7, .int .i64 x8, .slice a0 n0 c0, .slice a1 n1 c1] 24)).alloc (.cells #[.int .i64 0, .int .i64 0, .bool false, .bool false, .int .i64 0, .int .i64 0, .int .i64 0, .int .i64 0, .int .i64 0, .slice none 0 0, .slice none 0 0] 24)).cell? ⟨w.heap.size, 3, none⟩ = some (.bool x3) := cell_of_row _ _ 3 _ _ _ HT.out.2.1
  have p4 : ((w.alloc (.cells #[.int .i64 x0, .int .i64 x1, .bool x2, .bool x3, .int .i64 x4, .int .i64 x5, .int .i64 x6, .int .i64 x7, .int .i64 x8, .slice a0 n0 c0, .slice a1 n1 c1] 24)).alloc (.cells #[.int .i64 0, .int .i64 0, .bool false, .bool false, .int .i64 0, .int .i64 0, .int .i64 0, .int .i64 0, .int .i64 0, .slice none 0 0, .slice none 0 0] 24)).cell? ⟨w.heap.size, 4, none⟩ = some (.int .i64 x4) := cell_of_row _ _ 4 _ _ _ HT.out.2.1
  have p5 : ((w.alloc (.cells #[.int .i64 x0, .int .i64 x1, .bool x2, .bool x3, .int .i64 x4, .int .i64 x5, .int .i64 x6, .int .i64 x7, .int .i64 x8, .slice a0 n0 c0, .slice a1 n1 c1] 24)).alloc (.cells #[.int .i64 0, .int .i64 0, .bool false, .bool false, .int .i64 0, .int .i64 0, .int .i64 0, .int .i64 0, .int .i64 0, .slice none 0 0, .slice none 0 0] 24)).cell? ⟨w.heap.size, 5, none⟩ = some (.int .i64 x5) := cell_of_row _ _ 5 _ _ _ HT.out.2.1
  have p6 : ((w.alloc (.cells #[.int .i64 x0, .int .i64 x1, .bool x2, .bool x3, .int .i64 x4, .int .i64 x5, .int .i64 x6, .int .i64 x7, .int .i64 x8, .slice a0 n0 c0, .slice a1 n1 c1] 24)).alloc (.cells #[.int .i64 0, .int .i64 0, .bool false, .bool false, .int .i64 0, .int .i64 0, .int .i64 0, .int .i64 0, .int .i64 0, .slice none 0 0, .slice none 0 0] 24)).cell? ⟨w.heap.size, 6, none⟩ = some (.int .i64 x6) := cell_of_row _ _ 6 _ _ _ HT.out.2.1
  have p7 : ((w.alloc (.cells #[.int .i64 x0, .int .i64 x1, .bool x2, .bool x3, .int .i64 x4, .int .i64 x5, .int .i64 x6, .int .i64 x7, .int .i64 x8, .slice a0 n0 c0, .slice a1 n1 c1] 24)).alloc (.cells #[.int .i64 0, .int .i64 0, .bool false, .bool false, .int .i64 0, .int .i64 0, .int .i64 0, .int .i64 0, .int .i64 0, .slice none 0 0, .slice none 0 0] 24)).cell? ⟨w.heap.size, 7, none⟩ = some (.int .i64 x7) := cell_of_row _ _ 7 _ _ _ HT.out.2.1
  have p8 : ((w.alloc (.cells #[.int .i64 x0, .int .i64 x1, .bool x2, .bool x3, .int .i64 x4, .int .i64 x5, .int .i64 x6, .int .i64 x7, .int .i64 x8, .slice a0 n0 c0, .slice a1 n1 c1] 24)).alloc (.cells #[.int .i64 0, .int .i64 0, .bool false, .bool false, .int .i64 0, .int .i64 0, .int .i64 0, .int .i64 0, .int .i64 0, .slice none 0 0, .slice none 0 0] 24)).cell? ⟨w.heap.size, 8, none⟩ = some (.int .i64 x8) := cell_of_row _ _ 8 _ _ _ HT.out.2.1
  have p9 : ((w.alloc (.cells #[.int .i64 x0, .int .i64 x1, .bool x2, .bool x3, .int .i64 x4, .int .i64 x5, .int .i64 x6, .int .i64 x7, .int .i64 x8, .slice a0 n0 c0, .slice a1 n1 c1] 24)).alloc (.cells #[.int .i64 0, .int .i64 0, .bool false, .bool false, .int .i64 0, .int .i64 0, .int .i64 0, .int .i64 0, .int .i64 0, .slice none 0 0, .slice none 0 0] 24)).cell? ⟨w.heap.size, 9, none⟩ = some (.slice a0 n0 c0) := cell_of_row _ _ 9 _ _ _ HT.out.2.1
  have p10 : ((w.alloc (.cells #[.int .i64 x0, .int .i64 x1, .bool x2, .bool x3, .int .i64 x4, .int .i64 x5, .int .i64 x6, .int .i64 x7, .int .i64 x8, .slice a0 n0 c0, .slice a1 n1 c1] 24)).alloc (.cells #[.int .i64 0, .int .i64 0, .bool false, .bool false, .int .i64 0, .int .i64 0, .int .i64 0, .int .i64 0, .int .i64 0, .slice none 0 0, .slice none 0 0] 24)).cell? ⟨w.heap.size, 10, none⟩ = some (.slice a1 n1 c1) := cell_of_row _ _ 10 _ _ _ HT.out.2.1
  go_enter Tryz.func5, Tryz.ntmps5
  go_wp2_with fail
  generalize (w.alloc (.cells #[.int .i64 x0, .int .i64 x1, .bool x2, .bool x3, .int .i64 x4, .int .i64 x5, .int .i64 x6, .int .i64 x7, .int .i64 x8, .slice a0 n0 c0, .slice a1 n1 c1] 24)).alloc (.cells #[.int .i64 0, .int .i64 0, .bool false, .bool false, .int .i64 0, .int .i64 0, .int .i64 0, .int .i64 0, .int .i64 0, .slice none 0 0, .slice none 0 0] 24) = W0 at *
  clear p0 p1 p2 p3 p4 p5 p6 p7 p8 p9 p10
  refine (CM.out _ HT.out.1.1).mono ?_
  rintro e w1 ⟨rfl, hb⟩
  replace HT := hide (HT.out.next hb)
  clear hb
  have r0 : (w1).cell? ⟨w.heap.size + 1, 0, none⟩ = some (.int .i64 0) := cell_of_row _ _ 0 _ _ _ HT.out.2.2
  have r1 : (w1).cell? ⟨w.heap.size + 1, 1, none⟩ = some (.int .i64 0) := cell_of_row _ _ 1 _ _ _ HT.out.2.2
  have r2 : (w1).cell? ⟨w.heap.size + 1, 2, none⟩ = some (.bool false) := cell_of_row _ _ 2 _ _ _ HT.out.2.2
  have r3 : (w1).cell? ⟨w.heap.size + 1, 3, none⟩ = some (.bool false) := cell_of_row _ _ 3 _ _ _ HT.out.2.2
  have r4 : (w1).cell? ⟨w.heap.size + 1, 4, none⟩ = some (.int .i64 0) := cell_of_row _ _ 4 _ _ _ HT.out.2.2
  have r5 : (w1).cell? ⟨w.heap.size + 1, 5, none⟩ = some (.int .i64 0) := cell_of_row _ _ 5 _ _ _ HT.out.2.2
  have r6 : (w1).cell? ⟨w.heap.size + 1, 6, none⟩ = some (.int .i64 0) := cell_of_row _ _ 6 _ _ _ HT.out.2.2
  have r7 : (w1).cell? ⟨w.heap.size + 1, 7, none⟩ = some (.int .i64 0) := cell_of_row _ _ 7 _ _ _ HT.out.2.2
  have r8 : (w1).cell? ⟨w.heap.size + 1, 8, none⟩ = some (.int .i64 0) := cell_of_row _ _ 8 _ _ _ HT.out.2.2
  have r9 : (w1).cell? ⟨w.heap.size + 1, 9, none⟩ = some (.slice none 0 0) := cell_of_row _ _ 9 _ _ _ HT.out.2.2
  have r10 : (w1).cell? ⟨w.heap.size + 1, 10, none⟩ = some (.slice none 0 0) := cell_of_row _ _ 10 _ _ _ HT.out.2.2
  have rf : ∀ q, w1.frozen? ⟨w.heap.size + 1, q, none⟩ = false := fun q => frozen_of_row _ _ q _ _ HT.out.2.2
  go_wp2_with (first | (go_at_call 18; refine (specAddrOK_walk _ _).mono ?_; rintro e w' ⟨rfl, rfl⟩) | (go_at_call 19; refine (In_walk _ _ _ _).mono ?_; rintro e w' ⟨rfl, rfl⟩))
  exact bodyPost_ret (v := .tuple #[.agg #[.int .i64 0, .int .i64 0, .bool false, .bool false, .int .i64 0, .int .i64 0, .int .i64 0, .int .i64 0, .int .i64 0, .slice none 0 0, .slice none 0 0], .int .i64 1]) (by simp [results, Tryz.results5, go_sem, r0, r1, r2, r3, r4, r5, r6, r7, r8, r9, r10]) rfl ⟨rfl, (below_11n HT.out.1.1 (Nat.le_succ _))⟩
set_option maxHeartbeats 4000000 in
theorem specCom_code11 (x0 x1 : Int) (x2 x3 : Bool) (x4 x5 x6 x7 x8 : Int) (a0 : Option Addr) (n0 c0 : Nat) (a1 : Option Addr) (n1 c1 : Nat) (from_ kind_ code_ rest_ : Int) (M : Bool) (w : World) (hM : M = true) (h1 : adrB from_ = true) (h3 : inB code_ 0 255 = false) (hk : kind_ = 11)
   (cM : ∀ W, Below w.heap.size w W → Calls Tryz.prog 7 #[.agg #[.int .i64 x0, .int .i64 x1, .bool x2, .bool x3, .int .i64 x4, .int .i64 x5, .int .i64 x6, .int .i64 x7, .int .i64 x8, .slice a0 n0 c0, .slice a1 n1 c1]] W fun e w' => e = .returned (.bool M) ∧ Below W.heap.size W w') :
    Calls Tryz.prog 5 #[.agg #[.int .i64 x0, .int .i64 x1, .bool x2, .bool x3, .int .i64 x4, .int .i64 x5, .int .i64 x6, .int .i64 x7, .int .i64 x8, .slice a0 n0 c0, .slice a1 n1 c1], .int .i64 from_, .int .i64 kind_, .int .i64 code_, .int .i64 rest_] w fun e w' => e = .returned (.tuple #[.agg #[.int .i64 0, .int .i64 0, .bool false, .bool false, .int .i64 0, .int .i64 0, .int .i64 0, .int .i64 0, .int .i64 0, .slice none 0 0, .slice none 0 0], .int .i64 1]) ∧ Below w.heap.size w w' := by
  have HT := hide (TwoB.start w (.cells #[.int .i64 x0, .int .i64 x1, .bool x2, .bool x3, .int .i64 x4, .int .i64 x5, .int .i64 x6, .int .i64 x7, .int .i64 x8, .slice a0 n0 c0, .slice a1 n1 c1] 24) (.cells #[.int .i64 0, .int .i64 0, .bool false, .bool false, .int .i64 0, .int .i64 0, .int .i64 0, .int .i64 0, .int .i64 0, .slice none 0 0, .slice none 0 0] 24))
  have CM := hide cM
  clear cM
  subst hM hk
  have p0 : ((w.alloc (.cells #[.int .i64 x0, .int .i64 x1, .bool x2, .bool x3, .int .i64 x4, .int .i64 x5, .int .i64 x6, .int .i64 x7, .int .i64 x8, .slice a0 n0 c0, .slice a1 n1 c1] 24)).alloc (.cells #[.int .i64 0, .int .i64 0, .bool false, .bool false, .int .i64 0, .int .i64 0, .int .i64 0, .int .i64 0, .int .i64 0, .slice none 0 0, .slice none 0 0] 24)).cell? ⟨w.heap.size, 0, none⟩ = some (.int .i64 x0) := cell_of_row _ _ 0 _ _ _ HT.out.2.1
  have p1 : ((w.alloc (.cells #[.int .i64 x0, .int .i64 x1, .bool x2, .bool x3, .int .i64 x4, .int .i64 x5, .int .i64 x6, .int .i64 x7, .int .i64 x8, .slice a0 n0 c0, .slice a1 n1 c1] 24)).alloc (.cells #[.int .i64 0, .int .i64 0, .bool false, .bool false, .int .i64 0, .int .i64 0, .int .i64 0, .int .i64 0, .int .i64 0, .slice none 0 0, .slice none 0 0] 24)).cell? ⟨w.heap.size, 1, none⟩ = some (.int .i64 x1) := cell_of_row _ _ 1 _ _ _ HT.out.2.1
  have p2 : ((w.alloc (.cells #[.int .i64 x0, .int .i64 x1, .bool x2, .bool x3, .int .i64 x4, .int .i64 x5, .int .i64 x6, .int .i64 x7, .int .i64 x8, .slice a0 n0 c0, .slice a1 n1 c1] 24)).alloc (.cells #[.int .i64 0, .int .i64 0, .bool false, .bool false, .int .i64 0, .int .i64 0, .int .i64 0, .int .i64 0, .int .i64 0, .slice none 0 0, .slice none 0 0] 24)).cell? ⟨w.heap.size, 2, none⟩ = some (.bool x2) := cell_of_row _ _ 2 _ _ _ HT.out.2.1
  have p3 : ((w.alloc (.cells #[.int .i64 x0, .int .i64 x1, .bool x2, .bool x3, .int .i64 x4, .int .i64 x5, .int .i64 x6, .int .i64 x7, .int .i64 x8, .slice a0 n0 c0, .slice a1 n1 c1] 24)).alloc (.cells #[.int .i64 0, .int .i64 0, .bool false, .bool false, .int .i64 0, .int .i64 0, .int .i64 0, .int .i64 0, .int .i64 0, .slice none 0 0, .slice none 0 0] 24)).cell? ⟨w.heap.size, 3, none⟩ = some (.bool x3) := cell_of_row _ _ 3 _ _ _ HT.out.2.1
  have p4 : ((w.alloc (.cells #[.int .i64 x0, .int .i64 x1, .bool x2, .bool x3, .int .i64 x4, .int .i64 x5, .int .i64 x6, .int .i64 x7, .int .i64 x8, .slice a0 n0 c0, .slice a1 n1 c1] 24)).alloc (.cells #[.int .i64 0, .int .i64 0, .bool false, .bool false, .int .i64 0, .int .i64 0, .int .i64 0, .int .i64 0, .int .i64 0, .slice none 0 0, .slice none 0 0] 24)).cell? ⟨w.heap.size, 4, none⟩ = some (.int .i64 x4) := cell_of_row _ _ 4 _ _ _ HT.out.2.1
  have p5 : ((w.alloc (.cells #[.int .i64 x0, .int .i64 x1, .bool x2, .bool x3, .int .i64 x4, .int .i64 x5, .int .i64 x6, .int .i64 x7, .int .i64 x8, .slice a0 n0 c0, .slice a1 n1 c1] 24)).alloc (.cells #[.int .i64 0, .int .i64 0, .bool false, .bool false, .int .i64 0, .int .i64 0, .int .i64 0, .int .i64 0, .int .i64 0, .slice none 0 0, .slice none 0 0] 24)).cell? ⟨w.heap.size, 5, none⟩ = some (.int .i64 x5) := cell_of_row _ _ 5 _ _ _ HT.out.2.1
  have p6 : ((w.alloc (.cells #[.int .i64 x0, .int .i64 x1, .bool x2, .bool x3, .int .i64 x4, .int .i64 x5, .int .i64 x6, .int .i64 x7, .int .i64 x8, .slice a0 n0 c0, .slice a1 n1 c1] 24)).alloc (.cells #[.int .i64 0, .int .i64 0, .bool false, .bool false, .int .i64 0, .int .i64 0, .int .i64 0, .int .i64 0, .int .i64 0, .slice none 0 0, .slice none 0 0] 24)).cell? ⟨w.heap.size, 6, none⟩ = some (.int .i64 x6) := cell_of_row _ _ 6 _ _ _ HT.out.2.1
  have p7 : ((w.alloc (.cells #[.int .i64 x0, .int .i64 x1, .bool x2, .bool x3, .int .i64 x4, .int .i64 x5, .int .i64 x6, .int .i64 x7, .int .i64 x8, .slice a0 n0 c0, .slice a1 n1 c1] 24)).alloc (.cells #[.int .i64 0, .int .i64 0, .bool false, .bool false, .int .i64 0, .int .i64 0, .int .i64 0, .int .i64 0, .int .i64 0, .slice none 0 0, .slice none 0 0] 24)).cell? ⟨w.heap.size, 7, none⟩ = some (.int .i64 x7) := cell_of_row _ _ 7 _ _ _ HT.out.2.1
  have p8 : ((w.alloc (.cells #[.int .i64 x0, .int .i64 x1, .bool x2, .bool x3, .int .i64 x4, .int .i64 x5, .int .i64 x6, .int .i64 x7, .int .i64 x8, .slice a0 n0 c0, .slice a1 n1 c1] 24)).alloc (.cells #[.int .i64 0, .int .i64 0, .bool false, .bool false, .int .i64 0, .int .i64 0, .int .i64 0, .int .i64 0, .int .i64 0, .slice none 0 0, .slice none 0 0] 24)).cell? ⟨w.heap.size, 8, none⟩ = some (.int .i64 x8) := cell_of_row _ _ 8 _ _ _ HT.out.2.1
  have p9 : ((w.alloc (.cells #[.int .i64 x0, .int .i64 x1, .bool x2, .bool x3, .int .i64 x4, .int .i64 x5, .int .i64 x6, .int .i64 x7, .int .i64 x8, .slice a0 n0 c0, .slice a1 n1 c1] 24)).alloc (.cells #[.int .i64 0, .int .i64 0, .bool false, .bool false, .int .i64 0, .int .i64 0, .int .i64 0, .int .i64 0, .int .i64 0, .slice none 0 0, .slice none 0 0] 24)).cell? ⟨w.heap.size, 9, none⟩ = some (.slice a0 n0 c0) := cell_of_row _ _ 9 _ _ _ HT.out.2.1
  have p10 : ((w.alloc (.cells #[.int .i64 x0, .int .i64 x1, .bool x2, .bool x3, .int .i64 x4, .int .i64 x5, .int .i64 x6, .int .i64 x7, .int .i64 x8, .slice a0 n0 c0, .slice a1 n1 c1] 24)).alloc (.cells #[.int .i64 0, .int .i64 0, .bool false, .bool false, .int .i64 0, .int .i64 0, .int .i64 0, .int .i64 0, .int .i64 0, .slice none 0 0, .slice none 0 0] 24)).cell? ⟨w.heap.size, 10, none⟩ = some (.slice a1 n1 c1) := cell_of_row _ _ 10 _ _ _ HT.out.2.1
  go_enter Tryz.func5, Tryz.ntmps5
  go_wp2_with fail
  generalize (w.alloc (.cells #[.int .i64 x0, .int .i64 x1, .bool x2, .bool x3, .int .i64 x4, .int .i64 x5, .int .i64 x6, .int .i64 x7, .int .i64 x8, .slice a0 n0 c0, .slice a1 n1 c1] 24)).alloc (.cells #[.int .i64 0, .int .i64 0, .bool false, .bool false, .int .i64 0, .int .i64 0, .int .i64 0, .int .i64 0, .int .i64 0, .slice none 0 0, .slice none 0 0] 24) = W0 at *
  clear p0 p1 p2 p3 p4 p5 p6 p7 p8 p9 p10
  refine (CM.out _ HT.out.1.1).mono ?_
  rintro e w1 ⟨rfl, hb⟩
  replace HT := hide (HT.out.next hb)
  clear hb
  have r0 : (w1).cell? ⟨w.heap.size + 1, 0, none⟩ = some (.int .i64 0) := cell_of_row _ _ 0 _ _ _ HT.out.2.2
  have r1 : (w1).cell? ⟨w.heap.size + 1, 1, none⟩ = some (.int .i64 0) := cell_of_row _ _ 1 _ _ _ HT.out.2.2
  have r2 : (w1).cell? ⟨w.heap.size + 1, 2, none⟩ = some (.bool false) := cell_of_row _ _ 2 _ _ _ HT.out.2.2
  have r3 : (w1).cell? ⟨w.heap.size + 1, 3, none⟩ = some (.bool false) := cell_of_row _ _ 3 _ _ _ HT.out.2.2
  have r4 : (w1).cell? ⟨w.heap.size + 1, 4, none⟩ = some (.int .i64 0) := cell_of_row _ _ 4 _ _ _ HT.out.2.2
  have r5 : (w1).cell? ⟨w.heap.size + 1, 5, none⟩ = some (.int .i64 0) := cell_of_row _ _ 5 _ _ _ HT.out.2.2
  have r6 : (w1).cell? ⟨w.heap.size + 1, 6, none⟩ = some (.int .i64 0) := cell_of_row _ _ 6 _ _ _ HT.out.2.2
  have r7 : (w1).cell? ⟨w.heap.size + 1, 7, none⟩ = some (.int .i64 0) := cell_of_row _ _ 7 _ _ _ HT.out.2.2
  have r8 : (w1).cell? ⟨w.heap.size + 1, 8, none⟩ = some (.int .i64 0) := cell_of_row _ _ 8 _ _ _ HT.out.2.2
  have r9 : (w1).cell? ⟨w.heap.size + 1, 9, none⟩ = some (.slice none 0 0) := cell_of_row _ _ 9 _ _ _ HT.out.2.2
  have r10 : (w1).cell? ⟨w.heap.size + 1, 10, none⟩ = some (.slice none 0 0) := cell_of_row _ _ 10 _ _ _ HT.out.2.2
  have rf : ∀ q, w1.frozen? ⟨w.heap.size + 1, q, none⟩ = false := fun q => frozen_of_row _ _ q _ _ HT.out.2.2
  go_wp2_with (first | (go_at_call 18; refine (specAddrOK_walk _ _).mono ?_; rintro e w' ⟨rfl, rfl⟩) | (go_at_call 19; refine (In_walk _ _ _ _).mono ?_; rintro e w' ⟨rfl, rfl⟩))
  exact bodyPost_ret (v := .tuple #[.agg #[.int .i64 0, .int .i64 0, .bool false, .bool false, .int .i64 0, .int .i64 0, .int .i64 0, .int .i64 0, .int .i64 0, .slice none 0 0, .slice none 0 0], .int .i64 1]) (by simp [results, Tryz.results5, go_sem, r0, r1, r2, r3, r4, r5, r6, r7, r8, r9, r10]) rfl ⟨rfl, (below_11n HT.out.1.1 (Nat.le_succ _))⟩
set_option maxHeartbeats 4000000 in
theorem specCom_rest3 (x0 x1 : Int) (x2 x3 : Bool) (x4 x5 x6 x7 x8 : Int) (a0 : Option Addr) (n0 c0 : Nat) (a1 : Option Addr) (n1 c1 : Nat) (from_ kind_ code_ rest_ : Int) (M : Bool) (w : World) (hM : M = true) (h1 : adrB from_ = true) (h3 : inB code_ 0 255 = true) (h4 : inB rest_ 0 4294967295 = false) (hk : kind_ = 3)
   (cM : ∀ W, Below w.heap.size w W → Calls Tryz.prog 7 #[.agg #[.int .i64 x0, .int .i64 x1, .bool x2, .bool x3, .int .i64 x4, .int .i64 x5, .int .i64 x6, .int .i64 x7, .int .i64 x8, .slice a0 n0 c0, .slice a1 n1 c1]] W fun e w' => e = .returned (.bool M) ∧ Below W.heap.size W w') :
    Calls Tryz.prog 5 #[.agg #[.int .i64 x0, .int .i64 x1, .bool x2, .bool x3, .int .i64 x4, .int .i64 x5, .int .i64 x6, .int .i64 x7, .int .i64 x8, .slice a0 n0 c0, .slice a1 n1 c1], .int .i64 from_, .int .i64 kind_, .int .i64 code_, .int .i64 rest_] w fun e w' => e = .returned (.tuple #[.agg #[.int .i64 0, .int .i64 0, .bool false, .bool false, .int .i64 0, .int .i64 0, .int .i64 0, .int .i64 0, .int .i64 0, .slice none 0 0, .slice none 0 0], .int .i64 1]) ∧ Below w.heap.size w w' := by
  have HT := hide (TwoB.start w (.cells #[.int .i64 x0, .int .i64 x1, .bool x2, .bool x3, .int .i64 x4, .int .i64 x5, .int .i64 x6, .int .i64 x7, .int .i64 x8, .slice a0 n0 c0, .slice a1 n1 c1] 24) (.cells #[.int .i64 0, .int .i64 0, .bool false, .bool false, .int .i64 0, .int .i64 0, .int .i64 0, .int .i64 0, .int .i64 0, .slice none 0 0, .slice none 0 0] 24))
  have CM := hide cM
  clear cM
  subst hM hk
  have p0 : ((w.alloc (.cells #[.int .i64 x0, .int .i64 x1, .bool x2, .bool x3, .int .i64 x4, .int .i64 x5, .int .i64 x6, .int .i64 x7, .int .i64 x8, .slice a0 n0 c0, .slice a1 n1 c1] 24)).alloc (.cells #[.int .i64 0, .int .i64 0, .bool false, .bool false, .int .i64 0, .int .i64 0, .int .i64 0, .int .i64 0, .int .i64 0, .slice none 0 0, .slice none 0 0] 24)).cell? ⟨w.heap.size, 0, none⟩ = some (.int .i64 x0) := cell_of_row _ _ 0 _ _ _ HT.out.2.1
  have p1 : ((w.alloc (.cells #[.int .i64 x0, .int .i64 x1, .bool x2, .bool x3, .int .i64 x4, .int .i64 x5, .int .i64 x6, .int .i64 x7, .int .i64 x8, .slice a0 n0 c0, .slice a1 n1 c1] 24)).alloc (.cells #[.int .i64 0, .int .i64 0, .bool false, .bool false, .int .i64 0, .int .i64 0, .int .i64 0, .int .i64 0, .int .i64 0, .slice none 0 0, .slice none 0 0] 24)).cell? ⟨w.heap.size, 1, none⟩ = some (.int .i64 x1) := cell_of_row _ _ 1 _ _ _ HT.out.2.1
  have p2 : ((w.alloc (.cells #[.int .i64 x0, .int .i64 x1, .bool x2, .bool x3, .int .i64 x4, .int .i64 x5, .int .i64 x6, .int .i64 x7, .int .i64 x8, .slice a0 n0 c0, .slice a1 n1 c1] 24)).alloc (.cells #[.int .i64 0, .int .i64 0, .bool false, .bool false, .int .i64 0, .int .i64 0, .int .i64 0, .int .i64 0, .int .i64 0, .slice none 0 0, .slice none 0 0] 24)).cell? ⟨w.heap.size, 2, none⟩ = some (.bool x2) := cell_of_row _ _ 2 _ _ _ HT.out.2.1
  have p3 : ((w.alloc (.cells #[.int .i64 x0, .int .i64 x1, .bool x2, .bool x3, .int .i64 x4, .int .i64 x5, .int .i64 x6, .int .i64 x7, .int .i64 x8, .slice a0 n0 c0, .slice a1 n1 c1] 24)).alloc (.cells #[.int .i64 0, .int .i64 0, .bool false, .bool false, .int .i64 0, .int .i64 0, .int .i64 0, .int .i64 0, .int .i64 0, .slice none 0 0, .slice none 0 0] 24)).cell? ⟨w.heap.size, 3, none⟩ = some (.bool x3) := cell_of_row _ _ 3 _ _ _ HT.out.2.1
  have p4 : ((w.alloc (.cells #[.int .i64 x0, .int .i64 x1, .bool x2, .bool x3, .int .i64 x4, .int .i64 x5, .int .i64 x6, .int .i64 x7, .int .i64 x8, .slice a0 n0 c0, .slice a1 n1 c1] 24)).alloc (.cells #[.int .i64 0, .int .i64 0, .bool false, .bool false, .int .i64 0, .int .i64 0, .int .i64 0, .int .i64 0, .int .i64 0, .slice none 0 0, .slice none 0 0] 24)).cell? ⟨w.heap.size, 4, none⟩ = some (.int .i64 x4) := cell_of_row _ _ 4 _ _ _ HT.out.2.1
  have p5 : ((w.alloc (.cells #[.int .i64 x0, .int .i64 x1, .bool x2, .bool x3, .int .i64 x4, .int .i64 x5, .int .i64 x6, .int .i64 x7, .int .i64 x8, .slice a0 n0 c0, .slice a1 n1 c1] 24)).alloc (.cells #[.int .i64 0, .int .i64 0, .bool false, .bool false, .int .i64 0, .int .i64 0, .int .i64 0, .int .i64 0, .int .i64 0, .slice none 0 0, .slice none 0 0] 24)).cell? ⟨w.heap.size, 5, none⟩ = some (.int .i64 x5) := cell_of_row _ _ 5 _ _ _ HT.out.2.1
  have p6 : ((w.alloc (.cells #[.int .i64 x0, .int .i64 x1, .bool x2, .bool x3, .int .i64 x4, .int .i64 x5, .int .i64 x6, .int .i64 x7, .int .i64 x8, .slice a0 n0 c0, .slice a1 n1 c1] 24)).alloc (.cells #[.int .i64 0, .int .i64 0, .bool false, .bool false, .int .i64 0, .int .i64 0, .int .i64 0, .int .i64 0, .int .i64 0, .slice none 0 0, .slice none 0 0] 24)).cell? ⟨w.heap.size, 6, none⟩ = some (.int .i64 x6) := cell_of_row _ _ 6 _ _ _ HT.out.2.1
  have p7 : ((w.alloc (.cells #[.int .i64 x0, .int .i64 x1, .bool x2, .bool x3, .int .i64 x4, .int .i64 x5, .int .i64 x6, .int .i64 x7, .int .i64 x8, .slice a0 n0 c0, .slice a1 n1 c1] 24)).alloc (.cells #[.int .i64 0, .int .i64 0, .bool false, .bool false, .int .i64 0, .int .i64 0, .int .i64 0, .int .i64 0, .int .i64 0, .slice none 0 0, .slice none 0 0] 24)).cell? ⟨w.heap.size, 7, none⟩ = some (.int .i64 x7) := cell_of_row _ _ 7 _ _ _ HT.out.2.1
  have p8 : ((w.alloc (.cells #[.int .i64 x0, .int .i64 x1, .bool x2, .bool x3, .int .i64 x4, .int .i64 x5, .int .i64 x6, .int .i64 x7, .int .i64 x8, .slice a0 n0 c0, .slice a1 n1 c1] 24)).alloc (.cells #[.int .i64 0, .int .i64 0, .bool false, .bool false, .int .i64 0, .int .i64 0, .int .i64 0, .int .i64 0, .int .i64 0, .slice none 0 0, .slice none 0 0] 24)).cell? ⟨w.heap.size, 8, none⟩ = some (.int .i64 x8) := cell_of_row _ _ 8 _ _ _ HT.out.2.1
  have p9 : ((w.alloc (.cells #[.int .i64 x0, .int .i64 x1, .bool x2, .bool x3, .int .i64 x4, .int .i64 x5, .int .i64 x6, .int .i64 x7, .int .i64 x8, .slice a0 n0 c0, .slice a1 n1 c1] 24)).alloc (.cells #[.int .i64 0, .int .i64 0, .bool false, .bool false, .int .i64 0, .int .i64 0, .int .i64 0, .int .i64 0, .int .i64 0, .slice none 0 0, .slice none 0 0] 24)).cell? ⟨w.heap.size, 9, none⟩ = some (.slice a0 n0 c0) := cell_of_row _ _ 9 _ _ _ HT.out.2.1
  have p10 : ((w.alloc (.cells #[.int .i64 x0, .int .i64 x1, .bool x2, .bool x3, .int .i64 x4, .int .i64 x5, .int .i64 x6, .int .i64 x7, .int .i64 x8, .slice a0 n0 c0, .slice a1 n1 c1] 24)).alloc (.cells #[.int .i64 0, .int .i64 0, .bool false, .bool false, .int .i64 0, .int .i64 0, .int .i64 0, .int .i64 0, .int .i64 0, .slice none 0 0, .slice none 0 0] 24)).cell? ⟨w.heap.size, 10, none⟩ = some (.slice a1 n1 c1) := cell_of_row _ _ 10 _ _ _ HT.out.2.1
  go_enter Tryz.func5, Tryz.ntmps5
  go_wp2_with fail
  generalize (w.alloc (.cells #[.int .i64 x0, .int .i64 x1, .bool x2, .bool x3, .int .i64 x4, .int .i64 x5, .int .i64 x6, .int .i64 x7, .int .i64 x8, .slice a0 n0 c0, .slice a1 n1 c1] 24)).alloc (.cells #[.int .i64 0, .int .i64 0, .bool false, .bool false, .int .i64 0, .int .i64 0, .int .i64 0, .int .i64 0, .int .i64 0, .slice none 0 0, .slice none 0 0] 24) = W0 at *
  clear p0 p1 p2 p3 p4 p5 p6 p7 p8 p9 p10
  refine (CM.out _ HT.out.1.1).mono ?_
  rintro e w1 ⟨rfl, hb⟩
  replace HT := hide (HT.out.next hb)
  clear hb
  have r0 : (w1).cell? ⟨w.heap.size + 1, 0, none⟩ = some (.int .i64 0) := cell_of_row _ _ 0 _ _ _ HT.out.2.2
  have r1 : (w1).cell? ⟨w.heap.size + 1, 1, none⟩ = some (.int .i64 0) := cell_of_row _ _ 1 _ _ _ HT.out.2.2
  have r2 : (w1).cell? ⟨w.heap.size + 1, 2, none⟩ = some (.bool false) := cell_of_row _ _ 2 _ _ _ HT.out.2.2
  have r3 : (w1).cell? ⟨w.heap.size + 1, 3, none⟩ = some (.bool false) := cell_of_row _ _ 3 _ _ _ HT.out.2.2
  have r4 : (w1).cell? ⟨w.heap.size + 1, 4, none⟩ = some (.int .i64 0) := cell_of_row _ _ 4 _ _ _ HT.out.2.2
  have r5 : (w1).cell? ⟨w.heap.size + 1, 5, none⟩ = some (.int .i64 0) := cell_of_row _ _ 5 _ _ _ HT.out.2.2
  have r6 : (w1).cell? ⟨w.heap.size + 1, 6, none⟩ = some (.int .i64 0) := cell_of_row _ _ 6 _ _ _ HT.out.2.2
  have r7 : (w1).cell? ⟨w.heap.size + 1, 7, none⟩ = some (.int .i64 0) := cell_of_row _ _ 7 _ _ _ HT.out.2.2
  have r8 : (w1).cell? ⟨w.heap.size + 1, 8, none⟩ = some (.int .i64 0) := cell_of_row _ _ 8 _ _ _ HT.out.2.2
  have r9 : (w1).cell? ⟨w.heap.size + 1, 9, none⟩ = some (.slice none 0 0) := cell_of_row _ _ 9 _ _ _ HT.out.2.2
  have r10 : (w1).cell? ⟨w.heap.size + 1, 10, none⟩ = some (.slice none 0 0) := cell_of_row _ _ 10 _ _ _ HT.out.2.2
  have rf : ∀ q, w1.frozen? ⟨w.heap.size + 1, q, none⟩ = false := fun q => frozen_of_row _ _ q _ _ HT.out.2.2
  go_wp2_with (first | (go_at_call 18; refine (specAddrOK_walk _ _).mono ?_; rintro e w' ⟨rfl, rfl⟩) | (go_at_call 19; refine (In_walk _ _ _ _).mono ?_; rintro e w' ⟨rfl, rfl⟩))
  exact bodyPost_ret (v := .tuple #[.agg #[.int .i64 0, .int .i64 0, .bool false, .bool false, .int .i64 0, .int .i64 0, .int .i64 0, .int .i64 0, .int .i64 0, .slice none 0 0, .slice none 0 0], .int .i64 1]) (by simp [results, Tryz.results5, go_sem, r0, r1, r2, r3, r4, r5, r6, r7, r8, r9, r10]) rfl ⟨rfl, (below_11n HT.out.1.1 (Nat.le_succ _))⟩
set_option maxHeartbeats 4000000 in
theorem specCom_rest11 (x0 x1 : Int) (x2 x3 : Bool) (x4 x5 x6 x7 x8 : Int) (a0 : Option Addr) (n0 c0 : Nat) (a1 : Option Addr) (n1 c1 : Nat) (from_ kind_ code_ rest_ : Int) (M : Bool) (w : World) (hM : M = true) (h1 : adrB from_ = true) (h3 : inB code_ 0 255 = true) (h4 : inB rest_ 0 4294967295 = false) (hk : kind_ = 11)
   (cM : ∀ W, Below w.heap.size w W → Calls Tryz.prog 7 #[.agg #[.int .i64 x0, .int .i64 x1, .bool x2, .bool x3, .int .i64 x4, .int .i64 x5, .int .i64 x6, .int .i64 x7, .int .i64 x8, .slice a0 n0 c0, .slice a1 n1 c1]] W fun e w' => e = .returned (.bool M) ∧ Below W.heap.size W w') :
    Calls Tryz.prog 5 #[.agg #[.int .i64 x0, .int .i64 x1, .bool x2, .bool x3, .int .i64 x4, .int .i64 x5, .int .i64 x6, .int .i64 x7, .int .i64 x8, .slice a0 n0 c0, .slice a1 n1 c1], .int .i64 from_, .int .i64 kind_, .int .i64 code_, .int .i64 rest_] w fun e w' => e = .returned (.tuple #[.agg #[.int .i64 0, .int .i64 0, .bool false, .bool false, .int .i64 0, .int .i64 0, .int .i64 0, .int .i64 0, .int .i64 0, .slice none 0 0, .slice none 0 0], .int .i64 1]) ∧ Below w.heap.size w w' := by
  have HT := hide (TwoB.start w (.cells #[.int .i64 x0, .int .i64 x1, .bool x2, .bool x3, .int .i64 x4, .int .i64 x5, .int .i64 x6, .int .i64 x7, .int .i64 x8, .slice a0 n0 c0, .slice a1 n1 c1] 24) (.cells #[.int .i64 0, .int .i64 0, .bool false, .bool false, .int .i64 0, .int .i64 0, .int .i64 0, .int .i64 0, .int .i64 0, .slice none 0 0, .slice none 0 0] 24))
  have CM := hide cM
  clear cM
  subst hM hk
  have p0 : ((w.alloc (.cells #[.int .i64 x0, .int .i64 x1, .bool x2, .bool x3, .int .i64 x4, .int .i64 x5, .int .i64 x6, .int .i64 x7, .int .i64 x8, .slice a0 n0 c0, .slice a1 n1 c1] 24)).alloc (.cells #[.int .i64 0, .int .i64 0, .bool false, .bool false, .int .i64 0, .int .i64 0, .int .i64 0, .int .i64 0, .int .i64 0, .slice none 0 0, .slice none 0 0] 24)).cell? ⟨w.heap.size, 0, none⟩ = some (.int .i64 x0) := cell_of_row _ _ 0 _ _ _ HT.out.2.1
  have p1 : ((w.alloc (.cells #[.int .i64 x0, .int .i64 x1, .bool x2, .bool x3, .int .i64 x4, .int .i64 x5, .int .i64 x6, .int .i64 x7, .int .i64 x8, .slice a0 n0 c0, .slice a1 n1 c1] 24)).alloc (.cells #[.int .i64 0, .int .i64 0, .bool false, .bool false, .int .i64 0, .int .i64 0, .int .i64 0, .int .i64 0, .int .i64 0, .slice none 0 0, .slice none 0 0] 24)).cell? ⟨w.heap.size, 1, none⟩ = some (.int .i64 x1) := cell_of_row _ _ 1 _ _ _ HT.out.2.1
  have p2 : ((w.alloc (.cells #[.int .i64 x0, .int .i64 x1, .bool x2, .bool x3, .int .i64 x4, .int .i64 x5, .int .i64 x6, .int .i64 x7, .int .i64 x8, .slice a0 n0 c0, .slice a1 n1 c1] 24)).alloc (.cells #[.int .i64 0, .int .i64 0, .bool false, .bool false, .int .i64 0, .int .i64 0, .int .i64 0, .int .i64 0, .int .i64 0, .slice none 0 0, .slice none 0 0] 24)).cell? ⟨w.heap.size, 2, none⟩ = some (.bool x2) := cell_of_row _ _ 2 _ _ _ HT.out.2.1
  have p3 : ((w.alloc (.cells #[.int .i64 x0, .int .i64 x1, .bool x2, .bool x3, .int .i64 x4, .int .i64 x5, .int .i64 x6, .int .i64 x7, .int .i64 x8, .slice a0 n0 c0, .slice a1 n1 c1] 24)).alloc (.cells #[.int .i64 0, .int .i64 0, .bool false, .bool false, .int .i64 0, .int .i64 0, .int .i64 0, .int .i64 0, .int .i64 0, .slice none 0 0, .slice none 0 0] 24)).cell? ⟨w.heap.size, 3, none⟩ = some (.bool x3) := cell_of_row _ _ 3 _ _ _ HT.out.2.1
  have p4 : ((w.alloc (.cells #[.int .i64 x0, .int .i64 x1, .bool x2, .bool x3, .int .i64 x4, .int .i64 x5, .int .i64 x6, .int .i64 x7, .int .i64 x8, .slice a0 n0 c0, .slice a1 n1 c1] 24)).alloc (.cells #[.int .i64 0, .int .i64 0, .bool false, .bool false, .int .i64 0, .int .i64 0, .int .i64 0, .int .i64 0, .int .i64 0, .slice none 0 0, .slice none 0 0] 24)).cell? ⟨w.heap.size, 4, none⟩ = some (.int .i64 x4) := cell_of_row _ _ 4 _ _ _ HT.out.2.1
  have p5 : ((w.alloc (.cells #[.int .i64 x0, .int .i64 x1, .bool x2, .bool x3, .int .i64 x4, .int .i64 x5, .int .i64 x6, .int .i64 x7, .int .i64 x8, .slice a0 n0 c0, .slice a1 n1 c1] 24)).alloc (.cells #[.int .i64 0, .int .i64 0, .bool false, .bool false, .int .i64 0, .int .i64 0, .int .i64 0, .int .i64 0, .int .i64 0, .slice none 0 0, .slice none 0 0] 24)).cell? ⟨w.heap.size, 5, none⟩ = some (.int .i64 x5) := cell_of_row _ _ 5 _ _ _ HT.out.2.1
  have p6 : ((w.alloc (.cells #[.int .i64 x0, .int .i64 x1, .bool x2, .bool x3, .int .i64 x4, .int .i64 x5, .int .i64 x6, .int .i64 x7, .int .i64 x8, .slice a0 n0 c0, .slice a1 n1 c1] 24)).alloc (.cells #[.int .i64 0, .int .i64 0, .bool false, .bool false, .int .i64 0, .int .i64 0, .int .i64 0, .int .i64 0, .int .i64 0, .slice none 0 0, .slice none 0 0] 24)).cell? ⟨w.heap.size, 6, none⟩ = some (.int .i64 x6) := cell_of_row _ _ 6 _ _ _ HT.out.2.1
  have p7 : ((w.alloc (.cells #[.int .i64 x0, .int .i64 x1, .bool x2, .bool x3, .int .i64 x4, .int .i64 x5, .int .i64 x6, .int .i64 x7, .int .i64 x8, .slice a0 n0 c0, .slice a1 n1 c1] 24)).alloc (.cells #[.int .i64 0, .int .i64 0, .bool false, .bool false, .int .i64 0, .int .i64 0, .int .i64 0, .int .i64 0, .int .i64 0, .slice none 0 0, .slice none 0 0] 24)).cell? ⟨w.heap.size, 7, none⟩ = some (.int .i64 x7) := cell_of_row _ _ 7 _ _ _ HT.out.2.1
  have p8 : ((w.alloc (.cells #[.int .i64 x0, .int .i64 x1, .bool x2, .bool x3, .int .i64 x4, .int .i64 x5, .int .i64 x6, .int .i64 x7, .int .i64 x8, .slice a0 n0 c0, .slice a1 n1 c1] 24)).alloc (.cells #[.int .i64 0, .int .i64 0, .bool false, .bool false, .int .i64 0, .int .i64 0, .int .i64 0, .int .i64 0, .int .i64 0, .slice none 0 0, .slice none 0 0] 24)).cell? ⟨w.heap.size, 8, none⟩ = some (.int .i64 x8) := cell_of_row _ _ 8 _ _ _ HT.out.2.1
  have p9 : ((w.alloc (.cells #[.int .i64 x0, .int .i64 x1, .bool x2, .bool x3, .int .i64 x4, .int .i64 x5, .int .i64 x6, .int .i64 x7, .int .i64 x8, .slice a0 n0 c0, .slice a1 n1 c1] 24)).alloc (.cells #[.int .i64 0, .int .i64 0, .bool false, .bool false, .int .i64 0, .int .i64 0, .int .i64 0, .int .i64 0, .int .i64 0, .slice none 0 0, .slice none 0 0] 24)).cell? ⟨w.heap.size, 9, none⟩ = some (.slice a0 n0 c0) := cell_of_row _ _ 9 _ _ _ HT.out.2.1
  have p10 : ((w.alloc (.cells #[.int .i64 x0, .int .i64 x1, .bool x2, .bool x3, .int .i64 x4, .int .i64 x5, .int .i64 x6, .int .i64 x7, .int .i64 x8, .slice a0 n0 c0, .slice a1 n1 c1] 24)).alloc (.cells #[.int .i64 0, .int .i64 0, .bool false, .bool false, .int .i64 0, .int .i64 0, .int .i64 0, .int .i64 0, .int .i64 0, .slice none 0 0, .slice none 0 0] 24)).cell? ⟨w.heap.size, 10, none⟩ = some (.slice a1 n1 c1) := cell_of_row _ _ 10 _ _ _ HT.out.2.1
  go_enter Tryz.func5, Tryz.ntmps5
  go_wp2_with fail
  generalize (w.alloc (.cells #[.int .i64 x0, .int .i64 x1, .bool x2, .bool x3, .int .i64 x4, .int .i64 x5, .int .i64 x6, .int .i64 x7, .int .i64 x8, .slice a0 n0 c0, .slice a1 n1 c1] 24)).alloc (.cells #[.int .i64 0, .int .i64 0, .bool false, .bool false, .int .i64 0, .int .i64 0, .int .i64 0, .int .i64 0, .int .i64 0, .slice none 0 0, .slice none 0 0] 24) = W0 at *
  clear p0 p1 p2 p3 p4 p5 p6 p7 p8 p9 p10
  refine (CM.out _ HT.out.1.1).mono ?_
  rintro e w1 ⟨rfl, hb⟩
  replace HT := hide (HT.out.next hb)
  clear hb
  have r0 : (w1).cell? ⟨w.heap.size + 1, 0, none⟩ = some (.int .i64 0) := cell_of_row _ _ 0 _ _ _ HT.out.2.2
  have r1 : (w1).cell? ⟨w.heap.size + 1, 1, none⟩ = some (.int .i64 0) := cell_of_row _ _ 1 _ _ _ HT.out.2.2
  have r2 : (w1).cell? ⟨w.heap.size + 1, 2, none⟩ = some (.bool false) := cell_of_row _ _ 2 _ _ _ HT.out.2.2
  have r3 : (w1).cell? ⟨w.heap.size + 1, 3, none⟩ = some (.bool false) := cell_of_row _ _ 3 _ _ _ HT.out.2.2
  have r4 : (w1).cell? ⟨w.heap.size + 1, 4, none⟩ = some (.int .i64 0) := cell_of_row _ _ 4 _ _ _ HT.out.2.2
  have r5 : (w1).cell? ⟨w.heap.size + 1, 5, none⟩ = some (.int .i64 0) := cell_of_row _ _ 5 _ _ _ HT.out.2.2
  have r6 : (w1).cell? ⟨w.heap.size + 1, 6, none⟩ = some (.int .i64 0) := cell_of_row _ _ 6 _ _ _ HT.out.2.2
  have r7 : (w1).cell? ⟨w.heap.size + 1, 7, none⟩ = some (.int .i64 0) := cell_of_row _ _ 7 _ _ _ HT.out.2.2
  have r8 : (w1).cell? ⟨w.heap.size + 1, 8, none⟩ = some (.int .i64 0) := cell_of_row _ _ 8 _ _ _ HT.out.2.2
  have r9 : (w1).cell? ⟨w.heap.size + 1, 9, none⟩ = some (.slice none 0 0) := cell_of_row _ _ 9 _ _ _ HT.out.2.2
  have r10 : (w1).cell? ⟨w.heap.size + 1, 10, none⟩ = some (.slice none 0 0) := cell_of_row _ _ 10 _ _ _ HT.out.2.2
  have rf : ∀ q, w1.frozen? ⟨w.heap.size + 1, q, none⟩ = false := fun q => frozen_of_row _ _ q _ _ HT.out.2.2
  go_wp2_with (first | (go_at_call 18; refine (specAddrOK_walk _ _).mono ?_; rintro e w' ⟨rfl, rfl⟩) | (go_at_call 19; refine (In_walk _ _ _ _).mono ?_; rintro e w' ⟨rfl, rfl⟩))
  exact bodyPost_ret (v := .tuple #[.agg #[.int .i64 0, .int .i64 0, .bool false, .bool false, .int .i64 0, .int .i64 0, .int .i64 0, .int .i64 0, .int .i64 0, .slice none 0 0, .slice none 0 0], .int .i64 1]) (by simp [results, Tryz.results5, go_sem, r0, r1, r2, r3, r4, r5, r6, r7, r8, r9, r10]) rfl ⟨rfl, (below_11n HT.out.1.1 (Nat.le_succ _))⟩
set_option maxHeartbeats 4000000 in
theorem specCom_good3 (x0 x1 : Int) (x2 x3 : Bool) (x4 x5 x6 x7 x8 : Int) (a0 : Option Addr) (n0 c0 : Nat) (a1 : Option Addr) (n1 c1 : Nat) (from_ kind_ code_ rest_ : Int) (M : Bool) (w : World) (hM : M = true) (h1 : adrB from_ = true) (h3 : inB code_ 0 255 = true) (h4 : inB rest_ 0 4294967295 = true) (hk : kind_ = 3) (L ML : List Int) (N EN : Nat) (hN : L.length = N) (m0 : n0 ≤ 40) (hN2 : N ≤ 65535) (hE1 : EN ≤ N) (hE2 : EN = 28 + n0 ∨ (EN = N ∧ N < 28 + n0))
   (cE : ∀ W, Below w.heap.size w W → Calls Tryz.prog 20 #[.agg #[.int .i64 x0, .int .i64 x1, .bool x2, .bool x3, .int .i64 x4, .int .i64 x5, .int .i64 x6, .int .i64 x7, .int .i64 x8, .slice a0 n0 c0, .slice a1 n1 c1]] W fun e w' => ∃ v, e = .returned (.tuple #[v, .int .i64 0]) ∧ OwnB w' W.heap.size v L ∧ Below W.heap.size W w')
   (cI : ∀ W (a : Option Addr) (cap : Nat), Arr W a (L.take EN) → EN ≤ cap → Calls Tryz.prog 21 #[.agg #[.int .i64 3, .int .i64 code_, .int .i64 rest_, .slice a EN cap]] W fun e w' => ∃ v, e = .returned (.tuple #[v, .int .i64 0]) ∧ OwnB w' W.heap.size v ML ∧ Below W.heap.size W w')
   (cM : ∀ W, Below w.heap.size w W → Calls Tryz.prog 7 #[.agg #[.int .i64 x0, .int .i64 x1, .bool x2, .bool x3, .int .i64 x4, .int .i64 x5, .int .i64 x6, .int .i64 x7, .int .i64 x8, .slice a0 n0 c0, .slice a1 n1 c1]] W fun e w' => e = .returned (.bool M) ∧ Below W.heap.size W w') :
    Calls Tryz.prog 5 #[.agg #[.int .i64 x0, .int .i64 x1, .bool x2, .bool x3, .int .i64 x4, .int .i64 x5, .int .i64 x6, .int .i64 x7, .int .i64 x8, .slice a0 n0 c0, .slice a1 n1 c1], .int .i64 from_, .int .i64 kind_, .int .i64 code_, .int .i64 rest_] w fun e w' => ∃ v : Value, e = .returned (.tuple #[.agg #[.int .i64 0, .int .i64 0, .bool false, .bool false, .int .i64 0, .int .i64 64, .int .i64 1, .int .i64 from_, .int .i64 x7, .slice none 0 0, v], .int .i64 0]) ∧ OwnB w' w.heap.size v ML ∧ Below w.heap.size w w' := by
  have HT := hide (TwoB.start w (.cells #[.int .i64 x0, .int .i64 x1, .bool x2, .bool x3, .int .i64 x4, .int .i64 x5, .int .i64 x6, .int .i64 x7, .int .i64 x8, .slice a0 n0 c0, .slice a1 n1 c1] 24) (.cells #[.int .i64 0, .int .i64 0, .bool false, .bool false, .int .i64 0, .int .i64 0, .int .i64 0, .int .i64 0, .int .i64 0, .slice none 0 0, .slice none 0 0] 24))
  have CM := hide cM
  clear cM
  subst hM hk
  have CE := hide cE
  have CI := hide cI
  have HN := hide hN
  clear cE cI hN
  have p0 : ((w.alloc (.cells #[.int .i64 x0, .int .i64 x1, .bool x2, .bool x3, .int .i64 x4, .int .i64 x5, .int .i64 x6, .int .i64 x7, .int .i64 x8, .slice a0 n0 c0, .slice a1 n1 c1] 24)).alloc (.cells #[.int .i64 0, .int .i64 0, .bool false, .bool false, .int .i64 0, .int .i64 0, .int .i64 0, .int .i64 0, .int .i64 0, .slice none 0 0, .slice none 0 0] 24)).cell? ⟨w.heap.size, 0, none⟩ = some (.int .i64 x0) := cell_of_row _ _ 0 _ _ _ HT.out.2.1
  have p1 : ((w.alloc (.cells #[.int .i64 x0, .int .i64 x1, .bool x2, .bool x3, .int .i64 x4, .int .i64 x5, .int .i64 x6, .int .i64 x7, .int .i64 x8, .slice a0 n0 c0, .slice a1 n1 c1] 24)).alloc (.cells #[.int .i64 0, .int .i64 0, .bool false, .bool false, .int .i64 0, .int .i64 0, .int .i64 0, .int .i64 0, .int .i64 0, .slice none 0 0, .slice none 0 0] 24)).cell? ⟨w.heap.size, 1, none⟩ = some (.int .i64 x1) := cell_of_row _ _ 1 _ _ _ HT.out.2.1
  have p2 : ((w.alloc (.cells #[.int .i64 x0, .int .i64 x1, .bool x2, .bool x3, .int .i64 x4, .int .i64 x5, .int .i64 x6, .int .i64 x7, .int .i64 x8, .slice a0 n0 c0, .slice a1 n1 c1] 24)).alloc (.cells #[.int .i64 0, .int .i64 0, .bool false, .bool false, .int .i64 0, .int .i64 0, .int .i64 0, .int .i64 0, .int .i64 0, .slice none 0 0, .slice none 0 0] 24)).cell? ⟨w.heap.size, 2, none⟩ = some (.bool x2) := cell_of_row _ _ 2 _ _ _ HT.out.2.1
  have p3 : ((w.alloc (.cells #[.int .i64 x0, .int .i64 x1, .bool x2, .bool x3, .int .i64 x4, .int .i64 x5, .int .i64 x6, .int .i64 x7, .int .i64 x8, .slice a0 n0 c0, .slice a1 n1 c1] 24)).alloc (.cells #[.int .i64 0, .int .i64 0, .bool false, .bool false, .int .i64 0, .int .i64 0, .int .i64 0, .int .i64 0, .int .i64 0, .slice none 0 0, .slice none 0 0] 24)).cell? ⟨w.heap.size, 3, none⟩ = some (.bool x3) := cell_of_row _ _ 3 _ _ _ HT.out.2.1
  have p4 : ((w.alloc (.cells #[.int .i64 x0, .int .i64 x1, .bool x2, .bool x3, .int .i64 x4, .int .i64 x5, .int .i64 x6, .int .i64 x7, .int .i64 x8, .slice a0 n0 c0, .slice a1 n1 c1] 24)).alloc (.cells #[.int .i64 0, .int .i64 0, .bool false, .bool false, .int .i64 0, .int .i64 0, .int .i64 0, .int .i64 0, .int .i64 0, .slice none 0 0, .slice none 0 0] 24)).cell? ⟨w.heap.size, 4, none⟩ = some (.int .i64 x4) := cell_of_row _ _ 4 _ _ _ HT.out.2.1
  have p5 : ((w.alloc (.cells #[.int .i64 x0, .int .i64 x1, .bool x2, .bool x3, .int .i64 x4, .int .i64 x5, .int .i64 x6, .int .i64 x7, .int .i64 x8, .slice a0 n0 c0, .slice a1 n1 c1] 24)).alloc (.cells #[.int .i64 0, .int .i64 0, .bool false, .bool false, .int .i64 0, .int .i64 0, .int .i64 0, .int .i64 0, .int .i64 0, .slice none 0 0, .slice none 0 0] 24)).cell? ⟨w.heap.size, 5, none⟩ = some (.int .i64 x5) := cell_of_row _ _ 5 _ _ _ HT.out.2.1
  have p6 : ((w.alloc (.cells #[.int .i64 x0, .int .i64 x1, .bool x2, .bool x3, .int .i64 x4, .int .i64 x5, .int .i64 x6, .int .i64 x7, .int .i64 x8, .slice a0 n0 c0, .slice a1 n1 c1] 24)).alloc (.cells #[.int .i64 0, .int .i64 0, .bool false, .bool false, .int .i64 0, .int .i64 0, .int .i64 0, .int .i64 0, .int .i64 0, .slice none 0 0, .slice none 0 0] 24)).cell? ⟨w.heap.size, 6, none⟩ = some (.int .i64 x6) := cell_of_row _ _ 6 _ _ _ HT.out.2.1
  have p7 : ((w.alloc (.cells #[.int .i64 x0, .int .i64 x1, .bool x2, .bool x3, .int .i64 x4, .int .i64 x5, .int .i64 x6, .int .i64 x7, .int .i64 x8, .slice a0 n0 c0, .slice a1 n1 c1] 24)).alloc (.cells #[.int .i64 0, .int .i64 0, .bool false, .bool false, .int .i64 0, .int .i64 0, .int .i64 0, .int .i64 0, .int .i64 0, .slice none 0 0, .slice none 0 0] 24)).cell? ⟨w.heap.size, 7, none⟩ = some (.int .i64 x7) := cell_of_row _ _ 7 _ _ _ HT.out.2.1
  have p8 : ((w.alloc (.cells #[.int .i64 x0, .int .i64 x1, .bool x2, .bool x3, .int .i64 x4, .int .i64 x5, .int .i64 x6, .int .i64 x7, .int .i64 x8, .slice a0 n0 c0, .slice a1 n1 c1] 24)).alloc (.cells #[.int .i64 0, .int .i64 0, .bool false, .bool false, .int .i64 0, .int .i64 0, .int .i64 0, .int .i64 0, .int .i64 0, .slice none 0 0, .slice none 0 0] 24)).cell? ⟨w.heap.size, 8, none⟩ = some (.int .i64 x8) := cell_of_row _ _ 8 _ _ _ HT.out.2.1
  have p9 : ((w.alloc (.cells #[.int .i64 x0, .int .i64 x1, .bool x2, .bool x3, .int .i64 x4, .int .i64 x5, .int .i64 x6, .int .i64 x7, .int .i64 x8, .slice a0 n0 c0, .slice a1 n1 c1] 24)).alloc (.cells #[.int .i64 0, .int .i64 0, .bool false, .bool false, .int .i64 0, .int .i64 0, .int .i64 0, .int .i64 0, .int .i64 0, .slice none 0 0, .slice none 0 0] 24)).cell? ⟨w.heap.size, 9, none⟩ = some (.slice a0 n0 c0) := cell_of_row _ _ 9 _ _ _ HT.out.2.1
  have p10 : ((w.alloc (.cells #[.int .i64 x0, .int .i64 x1, .bool x2, .bool x3, .int .i64 x4, .int .i64 x5, .int .i64 x6, .int .i64 x7, .int .i64 x8, .slice a0 n0 c0, .slice a1 n1 c1] 24)).alloc (.cells #[.int .i64 0, .int .i64 0, .bool false, .bool false, .int .i64 0, .int .i64 0, .int .i64 0, .int .i64 0, .int .i64 0, .slice none 0 0, .slice none 0 0] 24)).cell? ⟨w.heap.size, 10, none⟩ = some (.slice a1 n1 c1) := cell_of_row _ _ 10 _ _ _ HT.out.2.1
  go_enter Tryz.func5, Tryz.ntmps5
  go_wp2_with fail
  generalize (w.alloc (.cells #[.int .i64 x0, .int .i64 x1, .bool x2, .bool x3, .int .i64 x4, .int .i64 x5, .int .i64 x6, .int .i64 x7, .int .i64 x8, .slice a0 n0 c0, .slice a1 n1 c1] 24)).alloc (.cells #[.int .i64 0, .int .i64 0, .bool false, .bool false, .int .i64 0, .int .i64 0, .int .i64 0, .int .i64 0, .int .i64 0, .slice none 0 0, .slice none 0 0] 24) = W0 at *
  clear p0 p1 p2 p3 p4 p5 p6 p7 p8 p9 p10
  refine (CM.out _ HT.out.1.1).mono ?_
  rintro e w1 ⟨rfl, hb⟩
  replace HT := hide (HT.out.next hb)
  clear hb
  have p0 : (w1).cell? ⟨w.heap.size, 0, none⟩ = some (.int .i64 x0) := cell_of_row _ _ 0 _ _ _ HT.out.2.1
  have p1 : (w1).cell? ⟨w.heap.size, 1, none⟩ = some (.int .i64 x1) := cell_of_row _ _ 1 _ _ _ HT.out.2.1
  have p2 : (w1).cell? ⟨w.heap.size, 2, none⟩ = some (.bool x2) := cell_of_row _ _ 2 _ _ _ HT.out.2.1
  have p3 : (w1).cell? ⟨w.heap.size, 3, none⟩ = some (.bool x3) := cell_of_row _ _ 3 _ _ _ HT.out.2.1
  have p4 : (w1).cell? ⟨w.heap.size, 4, none⟩ = some (.int .i64 x4) := cell_of_row _ _ 4 _ _ _ HT.out.2.1
  have p5 : (w1).cell? ⟨w.heap.size, 5, none⟩ = some (.int .i64 x5) := cell_of_row _ _ 5 _ _ _ HT.out.2.1
  have p6 : (w1).cell? ⟨w.heap.size, 6, none⟩ = some (.int .i64 x6) := cell_of_row _ _ 6 _ _ _ HT.out.2.1
  have p7 : (w1).cell? ⟨w.heap.size, 7, none⟩ = some (.int .i64 x7) := cell_of_row _ _ 7 _ _ _ HT.out.2.1
  have p8 : (w1).cell? ⟨w.heap.size, 8, none⟩ = some (.int .i64 x8) := cell_of_row _ _ 8 _ _ _ HT.out.2.1
  have p9 : (w1).cell? ⟨w.heap.size, 9, none⟩ = some (.slice a0 n0 c0) := cell_of_row _ _ 9 _ _ _ HT.out.2.1
  have p10 : (w1).cell? ⟨w.heap.size, 10, none⟩ = some (.slice a1 n1 c1) := cell_of_row _ _ 10 _ _ _ HT.out.2.1
  go_wp2_with (first | (go_at_call 18; refine (specAddrOK_walk _ _).mono ?_; rintro e w' ⟨rfl, rfl⟩) | (go_at_call 19; refine (In_walk _ _ _ _).mono ?_; rintro e w' ⟨rfl, rfl⟩))
  refine (CE.out _ HT.out.1.1).mono ?_
  rintro e w2 ⟨v, rfl, hO, hb⟩
  obtain ⟨ab, cb, hv, hA, hcb⟩ := hO.arr
  rw [HN.out] at hv hcb
  subst hv
  replace HT := hide (HT.out.next hb)
  have HA := hide hA
  clear hb hO hA
  clear p0 p1 p2 p3 p4 p5 p6 p7 p8 p9 p10
  have p0 : (w2).cell? ⟨w.heap.size, 0, none⟩ = some (.int .i64 x0) := cell_of_row _ _ 0 _ _ _ HT.out.2.1
  have p1 : (w2).cell? ⟨w.heap.size, 1, none⟩ = some (.int .i64 x1) := cell_of_row _ _ 1 _ _ _ HT.out.2.1
  have p2 : (w2).cell? ⟨w.heap.size, 2, none⟩ = some (.bool x2) := cell_of_row _ _ 2 _ _ _ HT.out.2.1
  have p3 : (w2).cell? ⟨w.heap.size, 3, none⟩ = some (.bool x3) := cell_of_row _ _ 3 _ _ _ HT.out.2.1
  have p4 : (w2).cell? ⟨w.heap.size, 4, none⟩ = some (.int .i64 x4) := cell_of_row _ _ 4 _ _ _ HT.out.2.1
  have p5 : (w2).cell? ⟨w.heap.size, 5, none⟩ = some (.int .i64 x5) := cell_of_row _ _ 5 _ _ _ HT.out.2.1
  have p6 : (w2).cell? ⟨w.heap.size, 6, none⟩ = some (.int .i64 x6) := cell_of_row _ _ 6 _ _ _ HT.out.2.1
  have p7 : (w2).cell? ⟨w.heap.size, 7, none⟩ = some (.int .i64 x7) := cell_of_row _ _ 7 _ _ _ HT.out.2.1
  have p8 : (w2).cell? ⟨w.heap.size, 8, none⟩ = some (.int .i64 x8) := cell_of_row _ _ 8 _ _ _ HT.out.2.1
  have p9 : (w2).cell? ⟨w.heap.size, 9, none⟩ = some (.slice a0 n0 c0) := cell_of_row _ _ 9 _ _ _ HT.out.2.1
  have p10 : (w2).cell? ⟨w.heap.size, 10, none⟩ = some (.slice a1 n1 c1) := cell_of_row _ _ 10 _ _ _ HT.out.2.1
  rcases hE2 with hE2 | ⟨hE2, hE3⟩
  · subst hE2
    go_wp2_with fail
    refine (CI.out _ ab cb (HA.out.take _) (by omega)).mono ?_
    rintro e w3 ⟨v2, rfl, hO, hb⟩
    obtain ⟨a2, k2, hv2, _⟩ := own_slice hO
    obtain ⟨l2, hl2⟩ : ∃ l2, l2 = ML.length := ⟨_, rfl⟩
    rw [← hl2] at hv2
    subst hv2
    have HO := hide hO
    have hz := HT.out.1.2
    replace HT := hide (HT.out.next hb)
    clear hb hO hl2
    clear p0 p1 p2 p3 p4 p5 p6 p7 p8 p9 p10
    have p0 : (w3).cell? ⟨w.heap.size, 0, none⟩ = some (.int .i64 x0) := cell_of_row _ _ 0 _ _ _ HT.out.2.1
    have p1 : (w3).cell? ⟨w.heap.size, 1, none⟩ = some (.int .i64 x1) := cell_of_row _ _ 1 _ _ _ HT.out.2.1
    have p2 : (w3).cell? ⟨w.heap.size, 2, none⟩ = some (.bool x2) := cell_of_row _ _ 2 _ _ _ HT.out.2.1
    have p3 : (w3).cell? ⟨w.heap.size, 3, none⟩ = some (.bool x3) := cell_of_row _ _ 3 _ _ _ HT.out.2.1
    have p4 : (w3).cell? ⟨w.heap.size, 4, none⟩ = some (.int .i64 x4) := cell_of_row _ _ 4 _ _ _ HT.out.2.1
    have p5 : (w3).cell? ⟨w.heap.size, 5, none⟩ = some (.int .i64 x5) := cell_of_row _ _ 5 _ _ _ HT.out.2.1
    have p6 : (w3).cell? ⟨w.heap.size, 6, none⟩ = some (.int .i64 x6) := cell_of_row _ _ 6 _ _ _ HT.out.2.1
    have p7 : (w3).cell? ⟨w.heap.size, 7, none⟩ = some (.int .i64 x7) := cell_of_row _ _ 7 _ _ _ HT.out.2.1
    have p8 : (w3).cell? ⟨w.heap.size, 8, none⟩ = some (.int .i64 x8) := cell_of_row _ _ 8 _ _ _ HT.out.2.1
    have p9 : (w3).cell? ⟨w.heap.size, 9, none⟩ = some (.slice a0 n0 c0) := cell_of_row _ _ 9 _ _ _ HT.out.2.1
    have p10 : (w3).cell? ⟨w.heap.size, 10, none⟩ = some (.slice a1 n1 c1) := cell_of_row _ _ 10 _ _ _ HT.out.2.1
    have r0 : (w3).cell? ⟨w.heap.size + 1, 0, none⟩ = some (.int .i64 0) := cell_of_row _ _ 0 _ _ _ HT.out.2.2
    have r1 : (w3).cell? ⟨w.heap.size + 1, 1, none⟩ = some (.int .i64 0) := cell_of_row _ _ 1 _ _ _ HT.out.2.2
    have r2 : (w3).cell? ⟨w.heap.size + 1, 2, none⟩ = some (.bool false) := cell_of_row _ _ 2 _ _ _ HT.out.2.2
    have r3 : (w3).cell? ⟨w.heap.size + 1, 3, none⟩ = some (.bool false) := cell_of_row _ _ 3 _ _ _ HT.out.2.2
    have r4 : (w3).cell? ⟨w.heap.size + 1, 4, none⟩ = some (.int .i64 0) := cell_of_row _ _ 4 _ _ _ HT.out.2.2
    have r5 : (w3).cell? ⟨w.heap.size + 1, 5, none⟩ = some (.int .i64 0) := cell_of_row _ _ 5 _ _ _ HT.out.2.2
    have r6 : (w3).cell? ⟨w.heap.size + 1, 6, none⟩ = some (.int .i64 0) := cell_of_row _ _ 6 _ _ _ HT.out.2.2
    have r7 : (w3).cell? ⟨w.heap.size + 1, 7, none⟩ = some (.int .i64 0) := cell_of_row _ _ 7 _ _ _ HT.out.2.2
    have r8 : (w3).cell? ⟨w.heap.size + 1, 8, none⟩ = some (.int .i64 0) := cell_of_row _ _ 8 _ _ _ HT.out.2.2
    have r9 : (w3).cell? ⟨w.heap.size + 1, 9, none⟩ = some (.slice none 0 0) := cell_of_row _ _ 9 _ _ _ HT.out.2.2
    have r10 : (w3).cell? ⟨w.heap.size + 1, 10, none⟩ = some (.slice none 0 0) := cell_of_row _ _ 10 _ _ _ HT.out.2.2
    have rf : ∀ q, w3.frozen? ⟨w.heap.size + 1, q, none⟩ = false := fun q => frozen_of_row _ _ q _ _ HT.out.2.2
    go_wp2_with fail
    exact bodyPost_ret (v := .tuple #[.agg #[.int .i64 0, .int .i64 0, .bool false, .bool false, .int .i64 0, .int .i64 64, .int .i64 1, .int .i64 from_, .int .i64 x7, .slice none 0 0, .slice a2 l2 k2], .int .i64 0]) (by simp [results, Tryz.results5, go_sem, r0, r1, r2, r3, r4, r5, r6, r7, r8, r9, r10]) rfl ⟨_, rfl, (ownb_11n HO.out hz).mono (by omega), below_11n HT.out.1.1 (Nat.le_succ _)⟩
  · subst hE2
    go_wp2_with fail
    refine (CI.out _ ab cb (HA.out.take _) (by omega)).mono ?_
    rintro e w3 ⟨v2, rfl, hO, hb⟩
    obtain ⟨a2, k2, hv2, _⟩ := own_slice hO
    obtain ⟨l2, hl2⟩ : ∃ l2, l2 = ML.length := ⟨_, rfl⟩
    rw [← hl2] at hv2
    subst hv2
    have HO := hide hO
    have hz := HT.out.1.2
    replace HT := hide (HT.out.next hb)
    clear hb hO hl2
    clear p0 p1 p2 p3 p4 p5 p6 p7 p8 p9 p10
    have p0 : (w3).cell? ⟨w.heap.size, 0, none⟩ = some (.int .i64 x0) := cell_of_row _ _ 0 _ _ _ HT.out.2.1
    have p1 : (w3).cell? ⟨w.heap.size, 1, none⟩ = some (.int .i64 x1) := cell_of_row _ _ 1 _ _ _ HT.out.2.1
    have p2 : (w3).cell? ⟨w.heap.size, 2, none⟩ = some (.bool x2) := cell_of_row _ _ 2 _ _ _ HT.out.2.1
    have p3 : (w3).cell? ⟨w.heap.size, 3, none⟩ = some (.bool x3) := cell_of_row _ _ 3 _ _ _ HT.out.2.1
    have p4 : (w3).cell? ⟨w.heap.size, 4, none⟩ = some (.int .i64 x4) := cell_of_row _ _ 4 _ _ _ HT.out.2.1
    have p5 : (w3).cell? ⟨w.heap.size, 5, none⟩ = some (.int .i64 x5) := cell_of_row _ _ 5 _ _ _ HT.out.2.1
    have p6 : (w3).cell? ⟨w.heap.size, 6, none⟩ = some (.int .i64 x6) := cell_of_row _ _ 6 _ _ _ HT.out.2.1
    have p7 : (w3).cell? ⟨w.heap.size, 7, none⟩ = some (.int .i64 x7) := cell_of_row _ _ 7 _ _ _ HT.out.2.1
    have p8 : (w3).cell? ⟨w.heap.size, 8, none⟩ = some (.int .i64 x8) := cell_of_row _ _ 8 _ _ _ HT.out.2.1
    have p9 : (w3).cell? ⟨w.heap.size, 9, none⟩ = some (.slice a0 n0 c0) := cell_of_row _ _ 9 _ _ _ HT.out.2.1
    have p10 : (w3).cell? ⟨w.heap.size, 10, none⟩ = some (.slice a1 n1 c1) := cell_of_row _ _ 10 _ _ _ HT.out.2.1
    have r0 : (w3).cell? ⟨w.heap.size + 1, 0, none⟩ = some (.int .i64 0) := cell_of_row _ _ 0 _ _ _ HT.out.2.2
    have r1 : (w3).cell? ⟨w.heap.size + 1, 1, none⟩ = some (.int .i64 0) := cell_of_row _ _ 1 _ _ _ HT.out.2.2
    have r2 : (w3).cell? ⟨w.heap.size + 1, 2, none⟩ = some (.bool false) := cell_of_row _ _ 2 _ _ _ HT.out.2.2
    have r3 : (w3).cell? ⟨w.heap.size + 1, 3, none⟩ = some (.bool false) := cell_of_row _ _ 3 _ _ _ HT.out.2.2
    have r4 : (w3).cell? ⟨w.heap.size + 1, 4, none⟩ = some (.int .i64 0) := cell_of_row _ _ 4 _ _ _ HT.out.2.2
    have r5 : (w3).cell? ⟨w.heap.size + 1, 5, none⟩ = some (.int .i64 0) := cell_of_row _ _ 5 _ _ _ HT.out.2.2
    have r6 : (w3).cell? ⟨w.heap.size + 1, 6, none⟩ = some (.int .i64 0) := cell_of_row _ _ 6 _ _ _ HT.out.2.2
    have r7 : (w3).cell? ⟨w.heap.size + 1, 7, none⟩ = some (.int .i64 0) := cell_of_row _ _ 7 _ _ _ HT.out.2.2
    have r8 : (w3).cell? ⟨w.heap.size + 1, 8, none⟩ = some (.int .i64 0) := cell_of_row _ _ 8 _ _ _ HT.out.2.2
    have r9 : (w3).cell? ⟨w.heap.size + 1, 9, none⟩ = some (.slice none 0 0) := cell_of_row _ _ 9 _ _ _ HT.out.2.2
    have r10 : (w3).cell? ⟨w.heap.size + 1, 10, none⟩ = some (.slice none 0 0) := cell_of_row _ _ 10 _ _ _ HT.out.2.2
    have rf : ∀ q, w3.frozen? ⟨w.heap.size + 1, q, none⟩ = false := fun q => frozen_of_row _ _ q _ _ HT.out.2.2
    go_wp2_with fail
    exact bodyPost_ret (v := .tuple #[.agg #[.int .i64 0, .int .i64 0, .bool false, .bool false, .int .i64 0, .int .i64 64, .int .i64 1, .int .i64 from_, .int .i64 x7, .slice none 0 0, .slice a2 l2 k2], .int .i64 0]) (by simp [results, Tryz.results5, go_sem, r0, r1, r2, r3, r4, r5, r6, r7, r8, r9, r10]) rfl ⟨_, rfl, (ownb_11n HO.out hz).mono (by omega), below_11n HT.out.1.1 (Nat.le_succ _)⟩
set_option maxHeartbeats 4000000 in
theorem specCom_good11 (x0 x1 : Int) (x2 x3 : Bool) (x4 x5 x6 x7 x8 : Int) (a0 : Option Addr) (n0 c0 : Nat) (a1 : Option Addr) (n1 c1 : Nat) (from_ kind_ code_ rest_ : Int) (M : Bool) (w : World) (hM : M = true) (h1 : adrB from_ = true) (h3 : inB code_ 0 255 = true) (h4 : inB rest_ 0 4294967295 = true) (hk : kind_ = 11) (L ML : List Int) (N EN : Nat) (hN : L.length = N) (m0 : n0 ≤ 40) (hN2 : N ≤ 65535) (hE1 : EN ≤ N) (hE2 : EN = 28 + n0 ∨ (EN = N ∧ N < 28 + n0))
   (cE : ∀ W, Below w.heap.size w W → Calls Tryz.prog 20 #[.agg #[.int .i64 x0, .int .i64 x1, .bool x2, .bool x3, .int .i64 x4, .int .i64 x5, .int .i64 x6, .int .i64 x7, .int .i64 x8, .slice a0 n0 c0, .slice a1 n1 c1]] W fun e w' => ∃ v, e = .returned (.tuple #[v, .int .i64 0]) ∧ OwnB w' W.heap.size v L ∧ Below W.heap.size W w')
   (cI : ∀ W (a : Option Addr) (cap : Nat), Arr W a (L.take EN) → EN ≤ cap → Calls Tryz.prog 21 #[.agg #[.int .i64 11, .int .i64 code_, .int .i64 rest_, .slice a EN cap]] W fun e w' => ∃ v, e = .returned (.tuple #[v, .int .i64 0]) ∧ OwnB w' W.heap.size v ML ∧ Below W.heap.size W w')
   (cM : ∀ W, Below w.heap.size w W → Calls Tryz.prog 7 #[.agg #[.int .i64 x0, .int .i64 x1, .bool x2, .bool x3, .int .i64 x4, .int .i64 x5, .int .i64 x6, .int .i64 x7, .int .i64 x8, .slice a0 n0 c0, .slice a1 n1 c1]] W fun e w' => e = .returned (.bool M) ∧ Below W.heap.size W w') :
    Calls Tryz.prog 5 #[.agg #[.int .i64 x0, .int .i64 x1, .bool x2, .bool x3, .int .i64 x4, .int .i64 x5, .int .i64 x6, .int .i64 x7, .int .i64 x8, .slice a0 n0 c0, .slice a1 n1 c1], .int .i64 from_, .int .i64 kind_, .int .i64 code_, .int .i64 rest_] w fun e w' => ∃ v : Value, e = .returned (.tuple #[.agg #[.int .i64 0, .int .i64 0, .bool false, .bool false, .int .i64 0, .int .i64 64, .int .i64 1, .int .i64 from_, .int .i64 x7, .slice none 0 0, v], .int .i64 0]) ∧ OwnB w' w.heap.size v ML ∧ Below w.heap.size w w' := by
  have HT := hide (TwoB.start w (.cells #[.int .i64 x0, .int .i64 x1, .bool x2, .bool x3, .int .i64 x4, .int .i64 x5, .int .i64 x6, .int .i64 x7, .int .i64 x8, .slice a0 n0 c0, .slice a1 n1 c1] 24) (.cells #[.int .i64 0, .int .i64 0, .bool false, .bool false, .int .i64 0, .int .i64 0, .int .i64 0, .int .i64 0, .int .i64 0, .slice none 0 0, .slice none 0 0] 24))
  have CM := hide cM
  clear cM
  subst hM hk
  have CE := hide cE
  have CI := hide cI
  have HN := hide hN
  clear cE cI hN
  have p0 : ((w.alloc (.cells #[.int .i64 x0, .int .i64 x1, .bool x2, .bool x3, .int .i64 x4, .int .i64 x5, .int .i64 x6, .int .i64 x7, .int .i64 x8, .slice a0 n0 c0, .slice a1 n1 c1] 24)).alloc (.cells #[.int .i64 0, .int .i64 0, .bool false, .bool false, .int .i64 0, .int .i64 0, .int .i64 0, .int .i64 0, .int .i64 0, .slice none 0 0, .slice none 0 0] 24)).cell? ⟨w.heap.size, 0, none⟩ = some (.int .i64 x0) := cell_of_row _ _ 0 _ _ _ HT.out.2.1
  have p1 : ((w.alloc (.cells #[.int .i64 x0, .int .i64 x1, .bool x2, .bool x3, .int .i64 x4, .int .i64 x5, .int .i64 x6, .int .i64 x7, .int .i64 x8, .slice a0 n0 c0, .slice a1 n1 c1] 24)).alloc (.cells #[.int .i64 0, .int .i64 0, .bool false, .bool false, .int .i64 0, .int .i64 0, .int .i64 0, .int .i64 0, .int .i64 0, .slice none 0 0, .slice none 0 0] 24)).cell? ⟨w.heap.size, 1, none⟩ = some (.int .i64 x1) := cell_of_row _ _ 1 _ _ _ HT.out.2.1
  have p2 : ((w.alloc (.cells #[.int .i64 x0, .int .i64 x1, .bool x2, .bool x3, .int .i64 x4, .int .i64 x5, .int .i64 x6, .int .i64 x7, .int .i64 x8, .slice a0 n0 c0, .slice a1 n1 c1] 24)).alloc (.cells #[.int .i64 0, .int .i64 0, .bool false, .bool false, .int .i64 0, .int .i64 0, .int .i64 0, .int .i64 0, .int .i64 0, .slice none 0 0, .slice none 0 0] 24)).cell? ⟨w.heap.size, 2, none⟩ = some (.bool x2) := cell_of_row _ _ 2 _ _ _ HT.out.2.1
  have p3 : ((w.alloc (.cells #[.int .i64 x0, .int .i64 x1, .bool x2, .bool x3, .int .i64 x4, .int .i64 x5, .int .i64 x6, .int .i64 x7, .int .i64 x8, .slice a0 n0 c0, .slice a1 n1 c1] 24)).alloc (.cells #[.int .i64 0, .int .i64 0, .bool false, .bool false, .int .i64 0, .int .i64 0, .int .i64 0, .int .i64 0, .int .i64 0, .slice none 0 0, .slice none 0 0] 24)).cell? ⟨w.heap.size, 3, none⟩ = some (.bool x3) := cell_of_row _ _ 3 _ _ _ HT.out.2.1
  have p4 : ((w.alloc (.cells #[.int .i64 x0, .int .i64 x1, .bool x2, .bool x3, .int .i64 x4, .int .i64 x5, .int .i64 x6, .int .i64 x7, .int .i64 x8, .slice a0 n0 c0, .slice a1 n1 c1] 24)).alloc (.cells #[.int .i64 0, .int .i64 0, .bool false, .bool false, .int .i64 0, .int .i64 0, .int .i64 0, .int .i64 0, .int .i64 0, .slice none 0 0, .slice none 0 0] 24)).cell? ⟨w.heap.size, 4, none⟩ = some (.int .i64 x4) := cell_of_row _ _ 4 _ _ _ HT.out.2.1
  have p5 : ((w.alloc (.cells #[.int .i64 x0, .int .i64 x1, .bool x2, .bool x3, .int .i64 x4, .int .i64 x5, .int .i64 x6, .int .i64 x7, .int .i64 x8, .slice a0 n0 c0, .slice a1 n1 c1] 24)).alloc (.cells #[.int .i64 0, .int .i64 0, .bool false, .bool false, .int .i64 0, .int .i64 0, .int .i64 0, .int .i64 0, .int .i64 0, .slice none 0 0, .slice none 0 0] 24)).cell? ⟨w.heap.size, 5, none⟩ = some (.int .i64 x5) := cell_of_row _ _ 5 _ _ _ HT.out.2.1
  have p6 : ((w.alloc (.cells #[.int .i64 x0, .int .i64 x1, .bool x2, .bool x3, .int .i64 x4, .int .i64 x5, .int .i64 x6, .int .i64 x7, .int .i64 x8, .slice a0 n0 c0, .slice a1 n1 c1] 24)).alloc (.cells #[.int .i64 0, .int .i64 0, .bool false, .bool false, .int .i64 0, .int .i64 0, .int .i64 0, .int .i64 0, .int .i64 0, .slice none 0 0, .slice none 0 0] 24)).cell? ⟨w.heap.size, 6, none⟩ = some (.int .i64 x6) := cell_of_row _ _ 6 _ _ _ HT.out.2.1
  have p7 : ((w.alloc (.cells #[.int .i64 x0, .int .i64 x1, .bool x2, .bool x3, .int .i64 x4, .int .i64 x5, .int .i64 x6, .int .i64 x7, .int .i64 x8, .slice a0 n0 c0, .slice a1 n1 c1] 24)).alloc (.cells #[.int .i64 0, .int .i64 0, .bool false, .bool false, .int .i64 0, .int .i64 0, .int .i64 0, .int .i64 0, .int .i64 0, .slice none 0 0, .slice none 0 0] 24)).cell? ⟨w.heap.size, 7, none⟩ = some (.int .i64 x7) := cell_of_row _ _ 7 _ _ _ HT.out.2.1
  have p8 : ((w.alloc (.cells #[.int .i64 x0, .int .i64 x1, .bool x2, .bool x3, .int .i64 x4, .int .i64 x5, .int .i64 x6, .int .i64 x7, .int .i64 x8, .slice a0 n0 c0, .slice a1 n1 c1] 24)).alloc (.cells #[.int .i64 0, .int .i64 0, .bool false, .bool false, .int .i64 0, .int .i64 0, .int .i64 0, .int .i64 0, .int .i64 0, .slice none 0 0, .slice none 0 0] 24)).cell? ⟨w.heap.size, 8, none⟩ = some (.int .i64 x8) := cell_of_row _ _ 8 _ _ _ HT.out.2.1
  have p9 : ((w.alloc (.cells #[.int .i64 x0, .int .i64 x1, .bool x2, .bool x3, .int .i64 x4, .int .i64 x5, .int .i64 x6, .int .i64 x7, .int .i64 x8, .slice a0 n0 c0, .slice a1 n1 c1] 24)).alloc (.cells #[.int .i64 0, .int .i64 0, .bool false, .bool false, .int .i64 0, .int .i64 0, .int .i64 0, .int .i64 0, .int .i64 0, .slice none 0 0, .slice none 0 0] 24)).cell? ⟨w.heap.size, 9, none⟩ = some (.slice a0 n0 c0) := cell_of_row _ _ 9 _ _ _ HT.out.2.1
  have p10 : ((w.alloc (.cells #[.int .i64 x0, .int .i64 x1, .bool x2, .bool x3, .int .i64 x4, .int .i64 x5, .int .i64 x6, .int .i64 x7, .int .i64 x8, .slice a0 n0 c0, .slice a1 n1 c1] 24)).alloc (.cells #[.int .i64 0, .int .i64 0, .bool false, .bool false, .int .i64 0, .int .i64 0, .int .i64 0, .int .i64 0, .int .i64 0, .slice none 0 0, .slice none 0 0] 24)).cell? ⟨w.heap.size, 10, none⟩ = some (.slice a1 n1 c1) := cell_of_row _ _ 10 _ _ _ HT.out.2.1
  go_enter Tryz.func5, Tryz.ntmps5
  go_wp2_with fail
  generalize (w.alloc (.cells #[.int .i64 x0, .int .i64 x1, .bool x2, .bool x3, .int .i64 x4, .int .i64 x5, .int .i64 x6, .int .i64 x7, .int .i64 x8, .slice a0 n0 c0, .slice a1 n1 c1] 24)).alloc (.cells #[.int .i64 0, .int .i64 0, .bool false, .bool false, .int .i64 0, .int .i64 0, .int .i64 0, .int .i64 0, .int .i64 0, .slice none 0 0, .slice none 0 0] 24) = W0 at *
  clear p0 p1 p2 p3 p4 p5 p6 p7 p8 p9 p10
  refine (CM.out _ HT.out.1.1).mono ?_
  rintro e w1 ⟨rfl, hb⟩
  replace HT := hide (HT.out.next hb)
  clear hb
  have p0 : (w1).cell? ⟨w.heap.size, 0, none⟩ = some (.int .i64 x0) := cell_of_row _ _ 0 _ _ _ HT.out.2.1
  have p1 : (w1).cell? ⟨w.heap.size, 1, none⟩ = some (.int .i64 x1) := cell_of_row _ _ 1 _ _ _ HT.out.2.1
  have p2 : (w1).cell? ⟨w.heap.size, 2, none⟩ = some (.bool x2) := cell_of_row _ _ 2 _ _ _ HT.out.2.1
  have p3 : (w1).cell? ⟨w.heap.size, 3, none⟩ = some (.bool x3) := cell_of_row _ _ 3 _ _ _ HT.out.2.1
  have p4 : (w1).cell? ⟨w.heap.size, 4, none⟩ = some (.int .i64 x4) := cell_of_row _ _ 4 _ _ _ HT.out.2.1
  have p5 : (w1).cell? ⟨w.heap.size, 5, none⟩ = some (.int .i64 x5) := cell_of_row _ _ 5 _ _ _ HT.out.2.1
  have p6 : (w1).cell? ⟨w.heap.size, 6, none⟩ = some (.int .i64 x6) := cell_of_row _ _ 6 _ _ _ HT.out.2.1
  have p7 : (w1).cell? ⟨w.heap.size, 7, none⟩ = some (.int .i64 x7) := cell_of_row _ _ 7 _ _ _ HT.out.2.1
  have p8 : (w1).cell? ⟨w.heap.size, 8, none⟩ = some (.int .i64 x8) := cell_of_row _ _ 8 _ _ _ HT.out.2.1
  have p9 : (w1).cell? ⟨w.heap.size, 9, none⟩ = some (.slice a0 n0 c0) := cell_of_row _ _ 9 _ _ _ HT.out.2.1
  have p10 : (w1).cell? ⟨w.heap.size, 10, none⟩ = some (.slice a1 n1 c1) := cell_of_row _ _ 10 _ _ _ HT.out.2.1
  go_wp2_with (first | (go_at_call 18; refine (specAddrOK_walk _ _).mono ?_; rintro e w' ⟨rfl, rfl⟩) | (go_at_call 19; refine (In_walk _ _ _ _).mono ?_; rintro e w' ⟨rfl, rfl⟩))
  refine (CE.out _ HT.out.1.1).mono ?_
  rintro e w2 ⟨v, rfl, hO, hb⟩
  obtain ⟨ab, cb, hv, hA, hcb⟩ := hO.arr
  rw [HN.out] at hv hcb
  subst hv
  replace HT := hide (HT.out.next hb)
  have HA := hide hA
  clear hb hO hA
  clear p0 p1 p2 p3 p4 p5 p6 p7 p8 p9 p10
  have p0 : (w2).cell? ⟨w.heap.size, 0, none⟩ = some (.int .i64 x0) := cell_of_row _ _ 0 _ _ _ HT.out.2.1
  have p1 : (w2).cell? ⟨w.heap.size, 1, none⟩ = some (.int .i64 x1) := cell_of_row _ _ 1 _ _ _ HT.out.2.1
  have p2 : (w2).cell? ⟨w.heap.size, 2, none⟩ = some (.bool x2) := cell_of_row _ _ 2 _ _ _ HT.out.2.1
  have p3 : (w2).cell? ⟨w.heap.size, 3, none⟩ = some (.bool x3) := cell_of_row _ _ 3 _ _ _ HT.out.2.1
  have p4 : (w2).cell? ⟨w.heap.size, 4, none⟩ = some (.int .i64 x4) := cell_of_row _ _ 4 _ _ _ HT.out.2.1
  have p5 : (w2).cell? ⟨w.heap.size, 5, none⟩ = some (.int .i64 x5) := cell_of_row _ _ 5 _ _ _ HT.out.2.1
  have p6 : (w2).cell? ⟨w.heap.size, 6, none⟩ = some (.int .i64 x6) := cell_of_row _ _ 6 _ _ _ HT.out.2.1
  have p7 : (w2).cell? ⟨w.heap.size, 7, none⟩ = some (.int .i64 x7) := cell_of_row _ _ 7 _ _ _ HT.out.2.1
  have p8 : (w2).cell? ⟨w.heap.size, 8, none⟩ = some (.int .i64 x8) := cell_of_row _ _ 8 _ _ _ HT.out.2.1
  have p9 : (w2).cell? ⟨w.heap.size, 9, none⟩ = some (.slice a0 n0 c0) := cell_of_row _ _ 9 _ _ _ HT.out.2.1
  have p10 : (w2).cell? ⟨w.heap.size, 10, none⟩ = some (.slice a1 n1 c1) := cell_of_row _ _ 10 _ _ _ HT.out.2.1
  rcases hE2 with hE2 | ⟨hE2, hE3⟩
  · subst hE2
    go_wp2_with fail
    refine (CI.out _ ab cb (HA.out.take _) (by omega)).mono ?_
    rintro e w3 ⟨v2, rfl, hO, hb⟩
    obtain ⟨a2, k2, hv2, _⟩ := own_slice hO
    obtain ⟨l2, hl2⟩ : ∃ l2, l2 = ML.length := ⟨_, rfl⟩
    rw [← hl2] at hv2
    subst hv2
    have HO := hide hO
    have hz := HT.out.1.2
    replace HT := hide (HT.out.next hb)
    clear hb hO hl2
    clear p0 p1 p2 p3 p4 p5 p6 p7 p8 p9 p10
    have p0 : (w3).cell? ⟨w.heap.size, 0, none⟩ = some (.int .i64 x0) := cell_of_row _ _ 0 _ _ _ HT.out.2.1
    have p1 : (w3).cell? ⟨w.heap.size, 1, none⟩ = some (.int .i64 x1) := cell_of_row _ _ 1 _ _ _ HT.out.2.1
    have p2 : (w3).cell? ⟨w.heap.size, 2, none⟩ = some (.bool x2) := cell_of_row _ _ 2 _ _ _ HT.out.2.1
    have p3 : (w3).cell? ⟨w.heap.size, 3, none⟩ = some (.bool x3) := cell_of_row _ _ 3 _ _ _ HT.out.2.1
    have p4 : (w3).cell? ⟨w.heap.size, 4, none⟩ = some (.int .i64 x4) := cell_of_row _ _ 4 _ _ _ HT.out.2.1
    have p5 : (w3).cell? ⟨w.heap.size, 5, none⟩ = some (.int .i64 x5) := cell_of_row _ _ 5 _ _ _ HT.out.2.1
    have p6 : (w3).cell? ⟨w.heap.size, 6, none⟩ = some (.int .i64 x6) := cell_of_row _ _ 6 _ _ _ HT.out.2.1
    have p7 : (w3).cell? ⟨w.heap.size, 7, none⟩ = some (.int .i64 x7) := cell_of_row _ _ 7 _ _ _ HT.out.2.1
    have p8 : (w3).cell? ⟨w.heap.size, 8, none⟩ = some (.int .i64 x8) := cell_of_row _ _ 8 _ _ _ HT.out.2.1
    have p9 : (w3).cell? ⟨w.heap.size, 9, none⟩ = some (.slice a0 n0 c0) := cell_of_row _ _ 9 _ _ _ HT.out.2.1
    have p10 : (w3).cell? ⟨w.heap.size, 10, none⟩ = some (.slice a1 n1 c1) := cell_of_row _ _ 10 _ _ _ HT.out.2.1
    have r0 : (w3).cell? ⟨w.heap.size + 1, 0, none⟩ = some (.int .i64 0) := cell_of_row _ _ 0 _ _ _ HT.out.2.2
    have r1 : (w3).cell? ⟨w.heap.size + 1, 1, none⟩ = some (.int .i64 0) := cell_of_row _ _ 1 _ _ _ HT.out.2.2
    have r2 : (w3).cell? ⟨w.heap.size + 1, 2, none⟩ = some (.bool false) := cell_of_row _ _ 2 _ _ _ HT.out.2.2
    have r3 : (w3).cell? ⟨w.heap.size + 1, 3, none⟩ = some (.bool false) := cell_of_row _ _ 3 _ _ _ HT.out.2.2
    have r4 : (w3).cell? ⟨w.heap.size + 1, 4, none⟩ = some (.int .i64 0) := cell_of_row _ _ 4 _ _ _ HT.out.2.2
    have r5 : (w3).cell? ⟨w.heap.size + 1, 5, none⟩ = some (.int .i64 0) := cell_of_row _ _ 5 _ _ _ HT.out.2.2
    have r6 : (w3).cell? ⟨w.heap.size + 1, 6, none⟩ = some (.int .i64 0) := cell_of_row _ _ 6 _ _ _ HT.out.2.2
    have r7 : (w3).cell? ⟨w.heap.size + 1, 7, none⟩ = some (.int .i64 0) := cell_of_row _ _ 7 _ _ _ HT.out.2.2
    have r8 : (w3).cell? ⟨w.heap.size + 1, 8, none⟩ = some (.int .i64 0) := cell_of_row _ _ 8 _ _ _ HT.out.2.2
    have r9 : (w3).cell? ⟨w.heap.size + 1, 9, none⟩ = some (.slice none 0 0) := cell_of_row _ _ 9 _ _ _ HT.out.2.2
    have r10 : (w3).cell? ⟨w.heap.size + 1, 10, none⟩ = some (.slice none 0 0) := cell_of_row _ _ 10 _ _ _ HT.out.2.2
    have rf : ∀ q, w3.frozen? ⟨w.heap.size + 1, q, none⟩ = false := fun q => frozen_of_row _ _ q _ _ HT.out.2.2
    go_wp2_with fail
    exact bodyPost_ret (v := .tuple #[.agg #[.int .i64 0, .int .i64 0, .bool false, .bool false, .int .i64 0, .int .i64 64, .int .i64 1, .int .i64 from_, .int .i64 x7, .slice none 0 0, .slice a2 l2 k2], .int .i64 0]) (by simp [results, Tryz.results5, go_sem, r0, r1, r2, r3, r4, r5, r6, r7, r8, r9, r10]) rfl ⟨_, rfl, (ownb_11n HO.out hz).mono (by omega), below_11n HT.out.1.1 (Nat.le_succ _)⟩
  · subst hE2
    go_wp2_with fail
    refine (CI.out _ ab cb (HA.out.take _) (by omega)).mono ?_
    rintro e w3 ⟨v2, rfl, hO, hb⟩
    obtain ⟨a2, k2, hv2, _⟩ := own_slice hO
    obtain ⟨l2, hl2⟩ : ∃ l2, l2 = ML.length := ⟨_, rfl⟩
    rw [← hl2] at hv2
    subst hv2
    have HO := hide hO
    have hz := HT.out.1.2
    replace HT := hide (HT.out.next hb)
    clear hb hO hl2
    clear p0 p1 p2 p3 p4 p5 p6 p7 p8 p9 p10
    have p0 : (w3).cell? ⟨w.heap.size, 0, none⟩ = some (.int .i64 x0) := cell_of_row _ _ 0 _ _ _ HT.out.2.1
    have p1 : (w3).cell? ⟨w.heap.size, 1, none⟩ = some (.int .i64 x1) := cell_of_row _ _ 1 _ _ _ HT.out.2.1
    have p2 : (w3).cell? ⟨w.heap.size, 2, none⟩ = some (.bool x2) := cell_of_row _ _ 2 _ _ _ HT.out.2.1
    have p3 : (w3).cell? ⟨w.heap.size, 3, none⟩ = some (.bool x3) := cell_of_row _ _ 3 _ _ _ HT.out.2.1
    have p4 : (w3).cell? ⟨w.heap.size, 4, none⟩ = some (.int .i64 x4) := cell_of_row _ _ 4 _ _ _ HT.out.2.1
    have p5 : (w3).cell? ⟨w.heap.size, 5, none⟩ = some (.int .i64 x5) := cell_of_row _ _ 5 _ _ _ HT.out.2.1
    have p6 : (w3).cell? ⟨w.heap.size, 6, none⟩ = some (.int .i64 x6) := cell_of_row _ _ 6 _ _ _ HT.out.2.1
    have p7 : (w3).cell? ⟨w.heap.size, 7, none⟩ = some (.int .i64 x7) := cell_of_row _ _ 7 _ _ _ HT.out.2.1
    have p8 : (w3).cell? ⟨w.heap.size, 8, none⟩ = some (.int .i64 x8) := cell_of_row _ _ 8 _ _ _ HT.out.2.1
    have p9 : (w3).cell? ⟨w.heap.size, 9, none⟩ = some (.slice a0 n0 c0) := cell_of_row _ _ 9 _ _ _ HT.out.2.1
    have p10 : (w3).cell? ⟨w.heap.size, 10, none⟩ = some (.slice a1 n1 c1) := cell_of_row _ _ 10 _ _ _ HT.out.2.1
    have r0 : (w3).cell? ⟨w.heap.size + 1, 0, none⟩ = some (.int .i64 0) := cell_of_row _ _ 0 _ _ _ HT.out.2.2
    have r1 : (w3).cell? ⟨w.heap.size + 1, 1, none⟩ = some (.int .i64 0) := cell_of_row _ _ 1 _ _ _ HT.out.2.2
    have r2 : (w3).cell? ⟨w.heap.size + 1, 2, none⟩ = some (.bool false) := cell_of_row _ _ 2 _ _ _ HT.out.2.2
    have r3 : (w3).cell? ⟨w.heap.size + 1, 3, none⟩ = some (.bool false) := cell_of_row _ _ 3 _ _ _ HT.out.2.2
    have r4 : (w3).cell? ⟨w.heap.size + 1, 4, none⟩ = some (.int .i64 0) := cell_of_row _ _ 4 _ _ _ HT.out.2.2
    have r5 : (w3).cell? ⟨w.heap.size + 1, 5, none⟩ = some (.int .i64 0) := cell_of_row _ _ 5 _ _ _ HT.out.2.2
    have r6 : (w3).cell? ⟨w.heap.size + 1, 6, none⟩ = some (.int .i64 0) := cell_of_row _ _ 6 _ _ _ HT.out.2.2
    have r7 : (w3).cell? ⟨w.heap.size + 1, 7, none⟩ = some (.int .i64 0) := cell_of_row _ _ 7 _ _ _ HT.out.2.2
    have r8 : (w3).cell? ⟨w.heap.size + 1, 8, none⟩ = some (.int .i64 0) := cell_of_row _ _ 8 _ _ _ HT.out.2.2
    have r9 : (w3).cell? ⟨w.heap.size + 1, 9, none⟩ = some (.slice none 0 0) := cell_of_row _ _ 9 _ _ _ HT.out.2.2
    have r10 : (w3).cell? ⟨w.heap.size + 1, 10, none⟩ = some (.slice none 0 0) := cell_of_row _ _ 10 _ _ _ HT.out.2.2
    have rf : ∀ q, w3.frozen? ⟨w.heap.size + 1, q, none⟩ = false := fun q => frozen_of_row _ _ q _ _ HT.out.2.2
    go_wp2_with fail
    exact bodyPost_ret (v := .tuple #[.agg #[.int .i64 0, .int .i64 0, .bool false, .bool false, .int .i64 0, .int .i64 64, .int .i64 1, .int .i64 from_, .int .i64 x7, .slice none 0 0, .slice a2 l2 k2], .int .i64 0]) (by simp [results, Tryz.results5, go_sem, r0, r1, r2, r3, r4, r5, r6, r7, r8, r9, r10]) rfl ⟨_, rfl, (ownb_11n HO.out hz).mono (by omega), below_11n HT.out.1.1 (Nat.le_succ _)⟩
set_option maxRecDepth 100000
/-- What is wanted of Complain. -/
def ComplainP (f : Nat) (Pre : World → Prop) (x0_0 : Int) (x0_1 : Int) (x0_2 : Bool) (x0_3 : Bool) (x0_4 : Int) (x0_5 : Int) (x0_6 : Int) (x0_7 : Int) (x0_8 : Int) (z0_0 : List Int) (z0_1 : List Int) (m1 : Int) (m2 : Int) (m3 : Int) (m4 : Int) (y0_0 : Int) (y0_1 : Int) (y0_2 : Bool) (y0_3 : Bool) (y0_4 : Int) (y0_5 : Int) (y0_6 : Int) (y0_7 : Int) (y0_8 : Int) (L0_0 : List Int) (L0_1 : List Int) (C1 : Int) : Prop :=
  ∀ (a0_0 : Option Addr) (n0_0 c0_0 : Nat) (a0_1 : Option Addr) (n0_1 c0_1 : Nat) (W : World), z0_0.length = n0_0 → Arr W a0_0 z0_0 → n0_0 ≤ c0_0 → n0_0 ≤ 1048576 → z0_1.length = n0_1 → Arr W a0_1 z0_1 → n0_1 ≤ c0_1 → n0_1 ≤ 1048576 → Pre W → Calls Tryz.prog f #[.agg #[.int .i64 x0_0, .int .i64 x0_1, .bool x0_2, .bool x0_3, .int .i64 x0_4, .int .i64 x0_5, .int .i64 x0_6, .int .i64 x0_7, .int .i64 x0_8, .slice a0_0 n0_0 c0_0, .slice a0_1 n0_1 c0_1], .int .i64 m1, .int .i64 m2, .int .i64 m3, .int .i64 m4] W fun e w' => ∃ v0_0 v0_1 : Value, e = .returned (.tuple #[.agg #[.int .i64 y0_0, .int .i64 y0_1, .bool y0_2, .bool y0_3, .int .i64 y0_4, .int .i64 y0_5, .int .i64 y0_6, .int .i64 y0_7, .int .i64 y0_8, v0_0, v0_1], .int .i64 C1]) ∧ OwnB w' W.heap.size v0_0 L0_0 ∧ OwnB w' W.heap.size v0_1 L0_1 ∧ (∀ b, v0_0.ownBlock = some b → v0_1.ownBlock ≠ some b) ∧ Below W.heap.size W w'
/-- What is wanted of ReadQuote. -/
def ReadQuoteP (f : Nat) (Pre : World → Prop) (z0_0 : List Int) (y0_0 : Int) (y0_1 : Int) (y0_2 : Int) (y0_3 : Int) (y0_4 : Int) (y0_5 : Int) (y0_6 : Int) (C1 : Int) : Prop :=
  ∀ (a0_0 : Option Addr) (n0_0 c0_0 : Nat) (W : World), z0_0.length = n0_0 → Arr W a0_0 z0_0 → n0_0 ≤ c0_0 → n0_0 ≤ 1048576 → Pre W → Calls Tryz.prog f #[.slice a0_0 n0_0 c0_0] W fun e w' => e = .returned (.tuple #[.agg #[.int .i64 y0_0, .int .i64 y0_1, .int .i64 y0_2, .int .i64 y0_3, .int .i64 y0_4, .int .i64 y0_5, .int .i64 y0_6], .int .i64 C1]) ∧ Below W.heap.size W w'
set_option maxRecDepth 100000
/-- Is there a complaint? -/
def coB (x0 x1 x4 x5 x6 x7 x8 : Int) (n0 : Nat) (z1 : List Int) (fr kd cd rs : Int) : Bool := mayB x0 x1 x4 x5 x6 x7 x8 n0 z1 && adrB fr && (decide (kd = 3) || decide (kd = 11)) && inB cd 0 255 && inB rs 0 4294967295
/-- How much of a packet's bytes a complaint quotes. -/
def coE (n0 n1 : Nat) : Nat := if 8 ≤ n1 then 28 + n0 else 20 + n0 + n1
def coI (b : Bool) (x : Int) : Int := if b then x else 0
/-- A complaint's payload. -/
def coL (x0 x1 : Int) (x2 x3 : Bool) (x4 x5 x6 x7 x8 : Int) (z0 z1 : List Int) (fr kd cd rs : Int) : List Int := if coB x0 x1 x4 x5 x6 x7 x8 z0.length z1 fr kd cd rs then icL kd cd rs ((ipL x0 x1 x2 x3 x4 x5 x6 x7 x8 z0 z1).take (coE z0.length z1.length)) else []
theorem ipL_is {x0 x1 x4 x5 x6 x7 x8 : Int} {x2 x3 : Bool} {z0 z1 : List Int} (h : ipC x0 x1 x4 x5 x6 x7 x8 z0.length z1.length = 0) : (ipL x0 x1 x2 x3 x4 x5 x6 x7 x8 z0 z1).length = 20 + z0.length + z1.length ∧ z0.length ≤ 40 ∧ 20 + z0.length + z1.length ≤ 65535 := by
  obtain ⟨hok, _⟩ := ipC_adr h
  obtain ⟨_, _, _, _, _, _, _, l0, _⟩ := pkOK_parts hok
  have h' := h
  unfold ipC at h'
  rw [hok, if_pos rfl] at h'
  refine ⟨?_, l0, ?_⟩
  · unfold ipL
    rw [if_pos h, List.length_append, ipHead_len]
  · by_cases k : 65535 < 20 + (z0.length : Int) + (z1.length : Int) ∨ 65535 < x4 + (z1.length : Int)
    · rw [if_pos k] at h'; cases h'
    · omega
/-- Complain of the model. -/
theorem specComplain (x0 x1 : Int) (x2 x3 : Bool) (x4 x5 x6 x7 x8 : Int) (z0 z1 : List Int) (fr kd cd rs : Int) (Pre : World → Prop) : ComplainP 5 Pre x0 x1 x2 x3 x4 x5 x6 x7 x8 z0 z1 fr kd cd rs 0 0 false false 0 (coI (coB x0 x1 x4 x5 x6 x7 x8 z0.length z1 fr kd cd rs) 64) (coI (coB x0 x1 x4 x5 x6 x7 x8 z0.length z1 fr kd cd rs) 1) (coI (coB x0 x1 x4 x5 x6 x7 x8 z0.length z1 fr kd cd rs) fr) (coI (coB x0 x1 x4 x5 x6 x7 x8 z0.length z1 fr kd cd rs) x7) [] (coL x0 x1 x2 x3 x4 x5 x6 x7 x8 z0 z1 fr kd cd rs) (if coB x0 x1 x4 x5 x6 x7 x8 z0.length z1 fr kd cd rs then 0 else 1) := by
  intro a0 n0 c0 a1 n1 c1 W h0n h0a k0 m0 h1n h1a k1 m1 _
  subst h0n h1n
  have cM := fun (V : World) (hb : Below W.heap.size W V) => specMay x0 x1 x2 x3 x4 x5 x6 x7 x8 z0 z1 (fun _ => True) a0 _ c0 a1 _ c1 V rfl (h0a.below hb (Nat.le_refl _)) k0 m0 rfl (h1a.below hb (Nat.le_refl _)) k1 m1 trivial
  cases hB : coB x0 x1 x4 x5 x6 x7 x8 z0.length z1 fr kd cd rs with
  | false =>
    have hL : coL x0 x1 x2 x3 x4 x5 x6 x7 x8 z0 z1 fr kd cd rs = [] := by unfold coL; rw [hB]; rfl
    rw [hL]
    have fin : ∀ e w', e = Ending.returned (.tuple #[.agg #[.int .i64 0, .int .i64 0, .bool false, .bool false, .int .i64 0, .int .i64 0, .int .i64 0, .int .i64 0, .int .i64 0, .slice none 0 0, .slice none 0 0], .int .i64 1]) ∧ Below W.heap.size W w' → ∃ v0_0 v0_1 : Value, e = .returned (.tuple #[.agg #[.int .i64 0, .int .i64 0, .bool false, .bool false, .int .i64 0, .int .i64 (coI false 64), .int .i64 (coI false 1), .int .i64 (coI false fr), .int .i64 (coI false x7), v0_0, v0_1], .int .i64 (if false = true then 0 else 1)]) ∧ OwnB w' W.heap.size v0_0 [] ∧ OwnB w' W.heap.size v0_1 [] ∧ (∀ b, v0_0.ownBlock = some b → v0_1.ownBlock ≠ some b) ∧ Below W.heap.size W w' := by
      rintro e w' ⟨rfl, hb⟩
      exact ⟨_, _, rfl, ⟨World.ownsRow_nil _ _ _ _, by simp⟩, ⟨World.ownsRow_nil _ _ _ _, by simp⟩, fun b h => by simp [Value.ownBlock] at h, hb⟩
    cases hM : mayB x0 x1 x4 x5 x6 x7 x8 z0.length z1 with
    | false => exact (specCom_may x0 x1 x2 x3 x4 x5 x6 x7 x8 a0 _ c0 a1 _ c1 fr kd cd rs _ W hM cM).mono fin
    | true =>
      cases h1 : adrB fr with
      | false => exact (specCom_from x0 x1 x2 x3 x4 x5 x6 x7 x8 a0 _ c0 a1 _ c1 fr kd cd rs _ W hM h1 cM).mono fin
      | true =>
        by_cases k3 : kd = 3
        · cases h3 : inB cd 0 255 with
          | false => exact (specCom_code3 x0 x1 x2 x3 x4 x5 x6 x7 x8 a0 _ c0 a1 _ c1 fr kd cd rs _ W hM h1 h3 k3 cM).mono fin
          | true =>
            cases h4 : inB rs 0 4294967295 with
            | false => exact (specCom_rest3 x0 x1 x2 x3 x4 x5 x6 x7 x8 a0 _ c0 a1 _ c1 fr kd cd rs _ W hM h1 h3 h4 k3 cM).mono fin
            | true => unfold coB at hB; rw [hM, h1, h3, h4, decide_eq_true k3] at hB; cases hB
        · by_cases k11 : kd = 11
          · cases h3 : inB cd 0 255 with
            | false => exact (specCom_code11 x0 x1 x2 x3 x4 x5 x6 x7 x8 a0 _ c0 a1 _ c1 fr kd cd rs _ W hM h1 h3 k11 cM).mono fin
            | true =>
              cases h4 : inB rs 0 4294967295 with
              | false => exact (specCom_rest11 x0 x1 x2 x3 x4 x5 x6 x7 x8 a0 _ c0 a1 _ c1 fr kd cd rs _ W hM h1 h3 h4 k11 cM).mono fin
              | true => unfold coB at hB; rw [hM, h1, h3, h4, decide_eq_true k11, Bool.or_true] at hB; cases hB
          · exact (specCom_kind x0 x1 x2 x3 x4 x5 x6 x7 x8 a0 _ c0 a1 _ c1 fr kd cd rs _ W hM h1 k3 k11 cM).mono fin
  | true =>
    have hL : coL x0 x1 x2 x3 x4 x5 x6 x7 x8 z0 z1 fr kd cd rs = icL kd cd rs ((ipL x0 x1 x2 x3 x4 x5 x6 x7 x8 z0 z1).take (coE z0.length z1.length)) := by unfold coL; rw [hB]; rfl
    rw [hL]
    have hB' := hB
    unfold coB at hB'
    simp only [Bool.and_eq_true, Bool.or_eq_true, decide_eq_true_eq] at hB'
    obtain ⟨⟨⟨⟨hM, h1⟩, hk⟩, h3⟩, h4⟩ := hB'
    have hC : ipC x0 x1 x4 x5 x6 x7 x8 z0.length z1.length = 0 := by
      have h := hM
      unfold mayB at h
      simp only [Bool.and_eq_true, decide_eq_true_eq] at h
      exact h.1.1.1.1
    obtain ⟨hlen, l0, l1⟩ := ipL_is (x2 := x2) (x3 := x3) hC
    have cE : ∀ V, Below W.heap.size W V → Calls Tryz.prog 20 #[.agg #[.int .i64 x0, .int .i64 x1, .bool x2, .bool x3, .int .i64 x4, .int .i64 x5, .int .i64 x6, .int .i64 x7, .int .i64 x8, .slice a0 z0.length c0, .slice a1 z1.length c1]] V fun e w' => ∃ v, e = .returned (.tuple #[v, .int .i64 0]) ∧ OwnB w' V.heap.size v (ipL x0 x1 x2 x3 x4 x5 x6 x7 x8 z0 z1) ∧ Below V.heap.size V w' := fun V hb => by
      have h := specEncIP x0 x1 x2 x3 x4 x5 x6 x7 x8 z0 z1 (fun _ => True) a0 _ c0 a1 _ c1 V rfl (h0a.below hb (Nat.le_refl _)) k0 m0 rfl (h1a.below hb (Nat.le_refl _)) k1 m1 trivial
      rw [hC] at h
      exact h
    generalize hLL : ipL x0 x1 x2 x3 x4 x5 x6 x7 x8 z0 z1 = L at *
    have hEN : coE z0.length z1.length ≤ 20 + z0.length + z1.length ∧ (coE z0.length z1.length = 28 + z0.length ∨ (coE z0.length z1.length = 20 + z0.length + z1.length ∧ 20 + z0.length + z1.length < 28 + z0.length)) := by
      unfold coE
      split <;> omega
    generalize coE z0.length z1.length = EN at *
    have cI : ∀ (V : World) (a : Option Addr) (cap : Nat), Arr V a (L.take EN) → EN ≤ cap → Calls Tryz.prog 21 #[.agg #[.int .i64 kd, .int .i64 cd, .int .i64 rs, .slice a EN cap]] V fun e w' => ∃ v, e = .returned (.tuple #[v, .int .i64 0]) ∧ OwnB w' V.heap.size v (icL kd cd rs (L.take EN)) ∧ Below V.heap.size V w' := fun V a cap hA hcap => by
      have hl : (L.take EN).length = EN := by rw [List.length_take]; omega
      have h := specEncIcmp kd cd rs (L.take EN) (fun _ => True) a EN cap V hl hA hcap (by omega) trivial
      have hz : icC kd cd rs (L.take EN).length = 0 := by
        unfold icC icOK
        rw [h3, h4, show inB kd 0 255 = true by rcases hk with rfl | rfl <;> rfl, hl]
        rw [if_pos (by decide), if_neg (by omega)]
      rw [hz] at h
      exact h
    have fin : ∀ (e : Ending) (w' : World), (∃ v : Value, e = .returned (.tuple #[.agg #[.int .i64 0, .int .i64 0, .bool false, .bool false, .int .i64 0, .int .i64 64, .int .i64 1, .int .i64 fr, .int .i64 x7, .slice none 0 0, v], .int .i64 0]) ∧ OwnB w' W.heap.size v (icL kd cd rs (L.take EN)) ∧ Below W.heap.size W w') → ∃ v0_0 v0_1 : Value, e = .returned (.tuple #[.agg #[.int .i64 0, .int .i64 0, .bool false, .bool false, .int .i64 0, .int .i64 (coI true 64), .int .i64 (coI true 1), .int .i64 (coI true fr), .int .i64 (coI true x7), v0_0, v0_1], .int .i64 (if true = true then 0 else 1)]) ∧ OwnB w' W.heap.size v0_0 [] ∧ OwnB w' W.heap.size v0_1 (icL kd cd rs (L.take EN)) ∧ (∀ b, v0_0.ownBlock = some b → v0_1.ownBlock ≠ some b) ∧ Below W.heap.size W w' := by
      rintro e w' ⟨v, rfl, hO, hb⟩
      exact ⟨_, v, rfl, ⟨World.ownsRow_nil _ _ _ _, by simp⟩, hO, fun b h => by simp [Value.ownBlock] at h, hb⟩
    rcases hk with rfl | rfl
    · exact (specCom_good3 x0 x1 x2 x3 x4 x5 x6 x7 x8 a0 _ c0 a1 _ c1 fr 3 cd rs _ W hM h1 h3 h4 rfl L _ _ EN hlen l0 l1 hEN.1 hEN.2 cE cI cM).mono fin
    · exact (specCom_good11 x0 x1 x2 x3 x4 x5 x6 x7 x8 a0 _ c0 a1 _ c1 fr 11 cd rs _ W hM h1 h3 h4 rfl L _ _ EN hlen l0 l1 hEN.1 hEN.2 cE cI cM).mono fin
set_option maxRecDepth 100000
theorem quote_is (x0 x1 : Int) (x2 x3 : Bool) (x4 x5 x6 x7 x8 : Int) (z0 z1 : List Int) (h : ipC x0 x1 x4 x5 x6 x7 x8 z0.length z1.length = 0) (K : Nat) (hK : K ≤ z1.length) : (ipL x0 x1 x2 x3 x4 x5 x6 x7 x8 z0 z1).take (20 + z0.length + K) = ipHead x0 x1 x2 x3 x4 x5 x6 x7 x8 z0 z1.length ++ z1.take K := by
  unfold ipL
  rw [if_pos h, List.take_append, ipHead_len, List.take_of_length_le (by rw [ipHead_len]; omega)]
  congr 2
  omega
theorem quoteOf_walk (x0 x1 : Int) (x2 x3 : Bool) (x4 x5 x6 x7 x8 : Int) (a0 : Option Addr) (n0 c0 : Nat) (a1 : Option Addr) (n1 c1 : Nat) (z0 z1 : List Int) (w : World) (h0n : z0.length = n0) (h0a : Arr w a0 z0) (h1n : z1.length = n1) (h1a : Arr w a1 z1) (m1 : n1 ≤ 1048576) (q1 : n1 ≤ c1) (h : ipC x0 x1 x4 x5 x6 x7 x8 n0 n1 = 0) :
    Calls Tryz.prog 27 #[.agg #[.int .i64 x0, .int .i64 x1, .bool x2, .bool x3, .int .i64 x4, .int .i64 x5, .int .i64 x6, .int .i64 x7, .int .i64 x8, .slice a0 n0 c0, .slice a1 n1 c1]] w fun e w' => ∃ v : Value, e = .returned v ∧ OwnB w' w.heap.size v ((ipL x0 x1 x2 x3 x4 x5 x6 x7 x8 z0 z1).take (coE n0 n1)) ∧ Below w.heap.size w w' := by
  subst h0n h1n
  obtain ⟨hok, _⟩ := ipC_adr h
  obtain ⟨_, l0, l1⟩ := ipL_is (x2 := x2) (x3 := x3) h
  have hN : 20 + (z0.length : Int) + (z1.length : Int) = ((20 + z0.length + z1.length : Nat) : Int) := by omega
  have hd := head_is x0 x1 x2 x3 x4 x5 x6 x7 x8 z0 z1.length _ hok hN h0a.1
  by_cases h8 : z1.length ≤ 8
  · refine quoteOf_all x0 x1 x2 x3 x4 x5 x6 x7 x8 a0 _ c0 a1 _ c1 z0 z1 w rfl h0a rfl h1a (by omega) m1 q1 h8 (by omega) _ hN _ ?_
    rw [hd, ← quote_is x0 x1 x2 x3 x4 x5 x6 x7 x8 z0 z1 h z1.length (Nat.le_refl _)]
    congr 1
    unfold coE
    split <;> omega
  · refine quoteOf_cut x0 x1 x2 x3 x4 x5 x6 x7 x8 a0 _ c0 a1 _ c1 z0 z1 w rfl h0a rfl h1a (by omega) m1 q1 (by omega) (by omega) _ hN _ ?_
    rw [hd, ← quote_is x0 x1 x2 x3 x4 x5 x6 x7 x8 z0 z1 h 8 (by omega)]
    congr 1
    unfold coE
    rw [if_pos (by omega)]
    omega
theorem mayB_ip {x0 x1 x4 x5 x6 x7 x8 : Int} {n0 : Nat} {z1 : List Int} (h : mayB x0 x1 x4 x5 x6 x7 x8 n0 z1 = true) : ipC x0 x1 x4 x5 x6 x7 x8 n0 z1.length = 0 := by
  unfold mayB at h
  simp only [Bool.and_eq_true, decide_eq_true_eq] at h
  exact h.1.1.1.1
theorem aboutN_two (k : Int) : (aboutN k != 2) = !(decide (k = 3) || decide (k = 11)) := by
  unfold aboutN
  by_cases h8 : k = 8
  · subst h8; rfl
  by_cases h0 : k = 0
  · subst h0; rfl
  by_cases h3 : k = 3
  · subst h3; rfl
  by_cases h11 : k = 11
  · subst h11; rfl
  rw [if_neg h8, if_neg h0, if_neg h3, if_neg h11, decide_eq_false h3, decide_eq_false h11]
  rfl
set_option maxHeartbeats 2000000 in
/-- Complain of the program. -/
theorem implComplain (x0 x1 : Int) (x2 x3 : Bool) (x4 x5 x6 x7 x8 : Int) (z0 z1 : List Int) (fr kd cd rs : Int) : ComplainP 8 ErrT x0 x1 x2 x3 x4 x5 x6 x7 x8 z0 z1 fr kd cd rs 0 0 false false 0 (coI (coB x0 x1 x4 x5 x6 x7 x8 z0.length z1 fr kd cd rs) 64) (coI (coB x0 x1 x4 x5 x6 x7 x8 z0.length z1 fr kd cd rs) 1) (coI (coB x0 x1 x4 x5 x6 x7 x8 z0.length z1 fr kd cd rs) fr) (coI (coB x0 x1 x4 x5 x6 x7 x8 z0.length z1 fr kd cd rs) x7) [] (coL x0 x1 x2 x3 x4 x5 x6 x7 x8 z0 z1 fr kd cd rs) (if coB x0 x1 x4 x5 x6 x7 x8 z0.length z1 fr kd cd rs then 0 else 1) := by
  intro a0 n0 c0 a1 n1 c1 W h0n h0a k0 m0 h1n h1a k1 m1 he
  subst h0n h1n
  have cM := fun (V : World) (hb : Below W.heap.size W V) => implMay x0 x1 x2 x3 x4 x5 x6 x7 x8 z0 z1 (fun _ => True) a0 _ c0 a1 _ c1 V rfl (h0a.below hb (Nat.le_refl _)) k0 m0 rfl (h1a.below hb (Nat.le_refl _)) k1 m1 trivial
  have bad : coB x0 x1 x4 x5 x6 x7 x8 z0.length z1 fr kd cd rs = false → ∀ e w', e = Ending.returned (.tuple #[.agg #[.int .i64 0, .int .i64 0, .bool false, .bool false, .int .i64 0, .int .i64 0, .int .i64 0, .int .i64 0, .int .i64 0, .slice none 0 0, .slice none 0 0], .int .i64 1]) ∧ Below W.heap.size W w' → ∃ v0_0 v0_1 : Value, e = .returned (.tuple #[.agg #[.int .i64 0, .int .i64 0, .bool false, .bool false, .int .i64 0, .int .i64 (coI (coB x0 x1 x4 x5 x6 x7 x8 z0.length z1 fr kd cd rs) 64), .int .i64 (coI (coB x0 x1 x4 x5 x6 x7 x8 z0.length z1 fr kd cd rs) 1), .int .i64 (coI (coB x0 x1 x4 x5 x6 x7 x8 z0.length z1 fr kd cd rs) fr), .int .i64 (coI (coB x0 x1 x4 x5 x6 x7 x8 z0.length z1 fr kd cd rs) x7), v0_0, v0_1], .int .i64 (if coB x0 x1 x4 x5 x6 x7 x8 z0.length z1 fr kd cd rs then 0 else 1)]) ∧ OwnB w' W.heap.size v0_0 [] ∧ OwnB w' W.heap.size v0_1 (coL x0 x1 x2 x3 x4 x5 x6 x7 x8 z0 z1 fr kd cd rs) ∧ (∀ b, v0_0.ownBlock = some b → v0_1.ownBlock ≠ some b) ∧ Below W.heap.size W w' := by
    rintro hB e w' ⟨rfl, hb⟩
    have nil : OwnB w' W.heap.size (.slice none 0 0) [] := ⟨World.ownsRow_nil _ _ _ _, by simp⟩
    refine ⟨_, _, by rw [hB]; rfl, nil, ?_, fun b h => (by cases h), hb⟩
    unfold coL
    rw [hB]
    exact nil
  cases hM : mayB x0 x1 x4 x5 x6 x7 x8 z0.length z1 with
  | false =>
    rw [hM] at cM
    exact (implCom_may x0 x1 x2 x3 x4 x5 x6 x7 x8 a0 _ c0 a1 _ c1 fr kd cd rs W cM).mono (bad (by unfold coB; rw [hM]; rfl))
  | true =>
    rw [hM] at cM
    have hC := mayB_ip hM
    obtain ⟨lq, l0, l1⟩ := ipL_is (x2 := x2) (x3 := x3) hC
    cases hA : adrB fr with
    | false => exact (implCom_from x0 x1 x2 x3 x4 x5 x6 x7 x8 a0 _ c0 a1 _ c1 fr kd cd rs W cM hA).mono (bad (by unfold coB; rw [hM, hA]; rfl))
    | true =>
      have cQ := fun (V : World) (hb : Below W.heap.size W V) => quoteOf_walk x0 x1 x2 x3 x4 x5 x6 x7 x8 a0 _ c0 a1 _ c1 z0 z1 V rfl (h0a.below hb (Nat.le_refl _)) rfl (h1a.below hb (Nat.le_refl _)) m1 k1 hC
      have hql : ((ipL x0 x1 x2 x3 x4 x5 x6 x7 x8 z0 z1).take (coE z0.length z1.length)).length ≤ 68 := by
        rw [List.length_take]
        unfold coE
        split <;> omega
      cases hK : (decide (kd = 3) || decide (kd = 11)) with
      | false => exact (implCom_kind x0 x1 x2 x3 x4 x5 x6 x7 x8 a0 _ c0 a1 _ c1 fr kd cd rs W cM hA _ (by omega) cQ (by rw [aboutN_two, hK]; rfl)).mono (bad (by unfold coB; rw [hM, hA, hK]; rfl))
      | true =>
        have hkd : inB kd 0 255 = true := by
          rw [inB_iff]
          rcases Bool.or_eq_true _ _ |>.mp hK with h | h
          · have := of_decide_eq_true h; omega
          · have := of_decide_eq_true h; omega
        have cE := implEncIcmp kd cd rs ((ipL x0 x1 x2 x3 x4 x5 x6 x7 x8 z0 z1).take (coE z0.length z1.length))
        cases hV : (inB cd 0 255 && inB rs 0 4294967295) with
        | false =>
          have hc1 : icC kd cd rs ((ipL x0 x1 x2 x3 x4 x5 x6 x7 x8 z0 z1).take (coE z0.length z1.length)).length = 1 := by
            unfold icC icOK
            rw [hkd, Bool.true_and, hV]
            rfl
          exact (implCom_enc x0 x1 x2 x3 x4 x5 x6 x7 x8 a0 _ c0 a1 _ c1 fr kd cd rs W cM hA _ (by omega) cQ (by rw [aboutN_two, hK]; rfl) _ _ cE he (by rw [hc1]; rfl)).mono (bad (by unfold coB; rw [hM, hA, hK, Bool.true_and, Bool.true_and, Bool.true_and, hV]))
        | true =>
          have hc0 : icC kd cd rs ((ipL x0 x1 x2 x3 x4 x5 x6 x7 x8 z0 z1).take (coE z0.length z1.length)).length = 0 := by
            unfold icC icOK
            rw [hkd, Bool.true_and, hV, if_pos rfl, if_neg (by omega)]
          have hB : coB x0 x1 x4 x5 x6 x7 x8 z0.length z1 fr kd cd rs = true := by unfold coB; rw [hM, hA, hK, Bool.true_and, Bool.true_and, Bool.true_and, hV]
          refine (implCom_good x0 x1 x2 x3 x4 x5 x6 x7 x8 a0 _ c0 a1 _ c1 fr kd cd rs W cM hA _ (by omega) cQ (by rw [aboutN_two, hK]; rfl) _ _ cE he (by rw [hc0]; rfl)).mono ?_
          rintro e w' ⟨v, rfl, hO, hb⟩
          refine ⟨.slice none 0 0, v, by rw [hB]; rfl, ⟨World.ownsRow_nil _ _ _ _, by simp⟩, ?_, fun b h => (by cases h), hb⟩
          unfold coL
          rw [hB, if_pos rfl]
          exact hO
set_option maxRecDepth 100000
set_option maxHeartbeats 4000000 in
theorem implEncIP_form (x0 x1 : Int) (x2 x3 : Bool) (x4 x5 x6 x7 x8 : Int) (a0 : Option Addr) (n0 c0 : Nat) (a1 : Option Addr) (n1 c1 : Nat) (w : World) (m0 : n0 ≤ 1048576) (m1 : n1 ≤ 1048576) (h : pkOK x0 x1 x4 x5 x6 x7 x8 n0 = false) (he : ErrT w) :
    Calls Tryz.prog 9 #[.agg #[.int .i64 x0, .int .i64 x1, .bool x2, .bool x3, .int .i64 x4, .int .i64 x5, .int .i64 x6, .int .i64 x7, .int .i64 x8, .slice a0 n0 c0, .slice a1 n1 c1]] w fun e w' => e = .returned (.tuple #[.slice none 0 0, .int .i64 1]) ∧ Below w.heap.size w w' := by
  have HF := hide (encPW_facts w x0 x1 x2 x3 x4 x5 x6 x7 x8 (.slice a0 n0 c0) (.slice a1 n1 c1))
  have HE := hide he
  have CV := hide (fun W => by have h' := validPacket_walk x0 x1 x2 x3 x4 x5 x6 x7 x8 a0 n0 c0 a1 n1 c1 W m0; rw [h] at h'; exact h')
  have CP := hide (fun W => headAndPayload_walk x0 x1 x2 x3 x4 x5 x6 x7 x8 a0 n0 c0 a1 n1 c1 W m0 m1)
  have CH := hide (fun W => headOf_any x0 x1 x2 x3 x4 x5 x6 x7 x8 a0 n0 c0 a1 n1 c1 W m0 m1)
  have CW := hide (fun W => fitsInBytes_any x0 x1 x2 x3 x4 x5 x6 x7 x8 a0 n0 c0 a1 n1 c1 W m0 m1)
  clear h he
  obtain ⟨⟨_, _, k0, k1, k2, k3, k4, k5, k6, k7, k8, k9, k10⟩, hc0⟩ := HF.out
  clear hc0
  go_enter Tryz.func9, Tryz.ntmps9
  go_wp2_with fail
  generalize hW : encPW w x0 x1 x2 x3 x4 x5 x6 x7 x8 (.slice a0 n0 c0) (.slice a1 n1 c1) = W at *
  unfold encPW at hW
  rw [hW]
  clear hW
  refine (CV.out _).mono ?_
  rintro e w1 ⟨rfl, hb1⟩
  have HB1 := hide (HF.out.1.next hb1)
  have HC1 := hide (HF.out.2.below hb1 HF.out.2.lt)
  clear k0 k1 k2 k3 k4 k5 k6 k7 k8 k9 k10 HF hb1 CV
  go_wp2_with fail
  have hlt := HC1.out.lt
  refine (demand_no (w.heap.size + 1) 0 (.slice none 0 0) _ _ HC1.out).mono ?_
  rintro e w2 ⟨rfl, hc2, hg2⟩
  have HC2 := hide hc2
  have HB2 := hide (HB1.out.keep (grown_under hg2 (Nat.le_refl _) (by omega)) (by omega))
  clear hc2 hg2 HB1 HC1
  obtain ⟨_, _, k0, k1, k2, k3, k4, k5, k6, k7, k8, k9, k10⟩ := HB2.out
  go_wp2_with fail
  refine (CW.out _).mono ?_
  rintro e w3 ⟨⟨wb, rfl⟩, hb3⟩
  have HB3 := hide (HB2.out.next hb3)
  have HC3 := hide (HC2.out.below hb3 HC2.out.lt)
  clear k0 k1 k2 k3 k4 k5 k6 k7 k8 k9 k10 HB2 HC2 hb3
  obtain ⟨_, _, k0, k1, k2, k3, k4, k5, k6, k7, k8, k9, k10⟩ := HB3.out
  go_wp2_with fail
  refine (demand_err (w.heap.size + 1) 0 (.slice none 0 0) 1 _ _ _ HC3.out).mono ?_
  rintro e w4 ⟨rfl, hw4⟩
  rw [hw4]
  clear k0 k1 k2 k3 k4 k5 k6 k7 k8 k9 k10 hw4
  obtain ⟨_, _, k0, k1, k2, k3, k4, k5, k6, k7, k8, k9, k10⟩ := HB3.out
  go_wp2_with fail
  refine (CP.out _).mono ?_
  rintro e w4 ⟨rfl, hb4⟩
  have HB4 := hide (HB3.out.next hb4)
  have HC4 := hide (HC3.out.below hb4 HC3.out.lt)
  clear k0 k1 k2 k3 k4 k5 k6 k7 k8 k9 k10 HB3 HC3 hb4 CP
  obtain ⟨_, _, k0, k1, k2, k3, k4, k5, k6, k7, k8, k9, k10⟩ := HB4.out
  go_wp2_with fail
  refine (makeRoom_err (w.heap.size + 1) 0 _ 1 _ _ HC4.out).mono ?_
  rintro e w5 ⟨rfl, hw5⟩
  rw [hw5]
  clear hw5
  go_wp2_with fail
  refine (CH.out _).mono ?_
  rintro e w5 ⟨H, rfl, hH, hb5, hh5⟩
  have HB5 := hide (HB4.out.next hb5)
  have HC5 := hide (HC4.out.below hb5 HC4.out.lt)
  have CU := hide (putHead_err (w.heap.size + 1) H n0 c0 a0 1 _ _ _ _ _ _ _ _ _ w5 HC5.out hh5 m0)
  clear k0 k1 k2 k3 k4 k5 k6 k7 k8 k9 k10 HB4 HC4 hb5 hh5 CH
  go_wp2_with fail
  refine CU.out.mono ?_
  rintro e w6 ⟨rfl, hb6⟩
  have HB6 := hide (HB5.out.next hb6)
  have HC6 := hide (HC5.out.below hb6 HC5.out.lt)
  clear CU HB5 HC5 hb6
  obtain ⟨_, _, k0, k1, k2, k3, k4, k5, k6, k7, k8, k9, k10⟩ := HB6.out
  go_wp2_with fail
  refine (putBytes_err (w.heap.size + 1) 0 0 0 n1 c1 none a1 1 _ HC6.out (by omega) (by omega) (by omega)).mono ?_
  rintro e w7 ⟨rfl, mb, rfl⟩
  have HB := hide (below_drewN HB6.out.1 mb)
  obtain ⟨c0', c1', c2', cf⟩ := (show Cur (w6.drewN mb) _ _ _ _ from HC6.out).cells
  clear k0 k1 k2 k3 k4 k5 k6 k7 k8 k9 k10 HB6 HC6
  generalize w6.drewN mb = V at *
  have CA := hide (ansB_err none 0 0 1 (by decide) V.drew (HE.out.below HB.out.drew (Nat.le_refl _)))
  have HK : Hid (V.drew.cell? ⟨w.heap.size + 1, 0, none⟩ = some (.slice none 0 0) ∧ V.drew.cell? ⟨w.heap.size + 1, 2, none⟩ = some (wErr 1)) := hide ⟨c0', c2'⟩
  have hlt8 : w.heap.size + 1 < V.heap.size := lt_cell c0'
  go_wp2_with fail
  go_region_held3 (fun w' => w'.cell? ⟨w.heap.size + 1, 0, none⟩ = some (.slice none 0 0) ∧ w'.cell? ⟨w.heap.size + 1, 2, none⟩ = some (wErr 1)) (first | with_reducible assumption | with_reducible exact HK.out)
    ((go_at_call 39; refine CA.out.mono ?_; rintro e w88 ⟨rfl, hb88⟩; have hk9 : w88.cell? ⟨w.heap.size + 1, 0, none⟩ = some (.slice none 0 0) ∧ w88.cell? ⟨w.heap.size + 1, 2, none⟩ = some (wErr 1) := ⟨(hb88.cell (p := ⟨w.heap.size + 1, 0, none⟩) hlt8).trans HK.out.1, (hb88.cell (p := ⟨w.heap.size + 1, 2, none⟩) hlt8).trans HK.out.2⟩))
  all_goals
    go_wp2_with fail
    go_ret2
    exact ⟨rfl, HB.out.drew.trans (hb88.mono HB.out.size)⟩
set_option maxHeartbeats 4000000 in
theorem implEncIP_size (x0 x1 : Int) (x2 x3 : Bool) (x4 x5 x6 x7 x8 : Int) (a0 : Option Addr) (n0 c0 : Nat) (a1 : Option Addr) (n1 c1 : Nat) (w : World) (m0 : n0 ≤ 1048576) (m1 : n1 ≤ 1048576) (h : pkOK x0 x1 x4 x5 x6 x7 x8 n0 = true) (hs : fitB x4 n0 n1 = false) (he : ErrT w) :
    Calls Tryz.prog 9 #[.agg #[.int .i64 x0, .int .i64 x1, .bool x2, .bool x3, .int .i64 x4, .int .i64 x5, .int .i64 x6, .int .i64 x7, .int .i64 x8, .slice a0 n0 c0, .slice a1 n1 c1]] w fun e w' => e = .returned (.tuple #[.slice none 0 0, .int .i64 7]) ∧ Below w.heap.size w w' := by
  have HF := hide (encPW_facts w x0 x1 x2 x3 x4 x5 x6 x7 x8 (.slice a0 n0 c0) (.slice a1 n1 c1))
  have HE := hide he
  have CV := hide (fun W => by have h' := validPacket_walk x0 x1 x2 x3 x4 x5 x6 x7 x8 a0 n0 c0 a1 n1 c1 W m0; rw [h] at h'; exact h')
  have CP := hide (fun W => headAndPayload_walk x0 x1 x2 x3 x4 x5 x6 x7 x8 a0 n0 c0 a1 n1 c1 W m0 m1)
  have CH := hide (fun W => headOf_any x0 x1 x2 x3 x4 x5 x6 x7 x8 a0 n0 c0 a1 n1 c1 W m0 m1)
  obtain ⟨_, _, b4, _, _, _, _, l0, _, _⟩ := pkOK_parts h
  have CW := hide (fun W => by have h' := fitsInBytes_walk x0 x1 x2 x3 x4 x5 x6 x7 x8 a0 n0 c0 a1 n1 c1 W m0 m1 b4.1 (by omega); rw [hs] at h'; exact h')
  clear hs b4 l0
  clear h he
  obtain ⟨⟨_, _, k0, k1, k2, k3, k4, k5, k6, k7, k8, k9, k10⟩, hc0⟩ := HF.out
  clear hc0
  go_enter Tryz.func9, Tryz.ntmps9
  go_wp2_with fail
  generalize hW : encPW w x0 x1 x2 x3 x4 x5 x6 x7 x8 (.slice a0 n0 c0) (.slice a1 n1 c1) = W at *
  unfold encPW at hW
  rw [hW]
  clear hW
  refine (CV.out _).mono ?_
  rintro e w1 ⟨rfl, hb1⟩
  have HB1 := hide (HF.out.1.next hb1)
  have HC1 := hide (HF.out.2.below hb1 HF.out.2.lt)
  clear k0 k1 k2 k3 k4 k5 k6 k7 k8 k9 k10 HF hb1 CV
  go_wp2_with fail
  refine (demand_yes (w.heap.size + 1) 0 (.slice none 0 0) _ _ HC1.out).mono ?_
  rintro e w2 ⟨rfl, hw2⟩
  rw [hw2]
  clear hw2
  obtain ⟨_, _, k0, k1, k2, k3, k4, k5, k6, k7, k8, k9, k10⟩ := HB1.out
  go_wp2_with fail
  refine (CW.out _).mono ?_
  rintro e w2 ⟨rfl, hb2⟩
  have HB2 := hide (HB1.out.next hb2)
  have HC2 := hide (HC1.out.below hb2 HC1.out.lt)
  clear k0 k1 k2 k3 k4 k5 k6 k7 k8 k9 k10 HB1 HC1 hb2
  obtain ⟨_, _, k0, k1, k2, k3, k4, k5, k6, k7, k8, k9, k10⟩ := HB2.out
  go_wp2_with fail
  have hlt := HC2.out.lt
  refine (demand_no (w.heap.size + 1) 0 (.slice none 0 0) _ _ HC2.out).mono ?_
  rintro e w3 ⟨rfl, hc3, hg3⟩
  have HC3 := hide hc3
  have HB3 := hide (HB2.out.keep (grown_under hg3 (Nat.le_refl _) (by omega)) (by omega))
  clear k0 k1 k2 k3 k4 k5 k6 k7 k8 k9 k10 hc3 hg3 HB2 HC2
  obtain ⟨_, _, k0, k1, k2, k3, k4, k5, k6, k7, k8, k9, k10⟩ := HB3.out
  go_wp2_with fail
  refine (CP.out _).mono ?_
  rintro e w4 ⟨rfl, hb4⟩
  have HB4 := hide (HB3.out.next hb4)
  have HC4 := hide (HC3.out.below hb4 HC3.out.lt)
  clear k0 k1 k2 k3 k4 k5 k6 k7 k8 k9 k10 HB3 HC3 hb4 CP
  obtain ⟨_, _, k0, k1, k2, k3, k4, k5, k6, k7, k8, k9, k10⟩ := HB4.out
  go_wp2_with fail
  refine (makeRoom_err (w.heap.size + 1) 0 _ 7 _ _ HC4.out).mono ?_
  rintro e w5 ⟨rfl, hw5⟩
  rw [hw5]
  clear hw5
  go_wp2_with fail
  refine (CH.out _).mono ?_
  rintro e w5 ⟨H, rfl, hH, hb5, hh5⟩
  have HB5 := hide (HB4.out.next hb5)
  have HC5 := hide (HC4.out.below hb5 HC4.out.lt)
  have CU := hide (putHead_err (w.heap.size + 1) H n0 c0 a0 7 _ _ _ _ _ _ _ _ _ w5 HC5.out hh5 m0)
  clear k0 k1 k2 k3 k4 k5 k6 k7 k8 k9 k10 HB4 HC4 hb5 hh5 CH
  go_wp2_with fail
  refine CU.out.mono ?_
  rintro e w6 ⟨rfl, hb6⟩
  have HB6 := hide (HB5.out.next hb6)
  have HC6 := hide (HC5.out.below hb6 HC5.out.lt)
  clear CU HB5 HC5 hb6
  obtain ⟨_, _, k0, k1, k2, k3, k4, k5, k6, k7, k8, k9, k10⟩ := HB6.out
  go_wp2_with fail
  refine (putBytes_err (w.heap.size + 1) 0 0 0 n1 c1 none a1 7 _ HC6.out (by omega) (by omega) (by omega)).mono ?_
  rintro e w7 ⟨rfl, mb, rfl⟩
  have HB := hide (below_drewN HB6.out.1 mb)
  obtain ⟨c0', c1', c2', cf⟩ := (show Cur (w6.drewN mb) _ _ _ _ from HC6.out).cells
  clear k0 k1 k2 k3 k4 k5 k6 k7 k8 k9 k10 HB6 HC6
  generalize w6.drewN mb = V at *
  have CA := hide (ansB_err none 0 0 7 (by decide) V.drew (HE.out.below HB.out.drew (Nat.le_refl _)))
  have HK : Hid (V.drew.cell? ⟨w.heap.size + 1, 0, none⟩ = some (.slice none 0 0) ∧ V.drew.cell? ⟨w.heap.size + 1, 2, none⟩ = some (wErr 7)) := hide ⟨c0', c2'⟩
  have hlt8 : w.heap.size + 1 < V.heap.size := lt_cell c0'
  go_wp2_with fail
  go_region_held3 (fun w' => w'.cell? ⟨w.heap.size + 1, 0, none⟩ = some (.slice none 0 0) ∧ w'.cell? ⟨w.heap.size + 1, 2, none⟩ = some (wErr 7)) (first | with_reducible assumption | with_reducible exact HK.out)
    ((go_at_call 39; refine CA.out.mono ?_; rintro e w88 ⟨rfl, hb88⟩; have hk9 : w88.cell? ⟨w.heap.size + 1, 0, none⟩ = some (.slice none 0 0) ∧ w88.cell? ⟨w.heap.size + 1, 2, none⟩ = some (wErr 7) := ⟨(hb88.cell (p := ⟨w.heap.size + 1, 0, none⟩) hlt8).trans HK.out.1, (hb88.cell (p := ⟨w.heap.size + 1, 2, none⟩) hlt8).trans HK.out.2⟩))
  all_goals
    go_wp2_with fail
    go_ret2
    exact ⟨rfl, HB.out.drew.trans (hb88.mono HB.out.size)⟩
set_option maxRecDepth 100000
theorem HoldV.kept {w w' : World} {H T : Nat} {vs : Array Value} {row : Option Nat} (h : HoldV w H vs T) (hg : w.grownBy w' row) (hne : some H ≠ row) : HoldV w' H vs T := (hg.block H h.lt hne).trans h
theorem HoldV.set {w : World} {H T : Nat} {vs : Array Value} (h : HoldV w H vs T) (i : Nat) (y : Value) : HoldV (w.setCell ⟨H, i, none⟩ y) H (vs.setIfInBounds i y) T := heap_setCell_same w H i _ _ y h
/-- The result's box and the cursor's. -/
def DS0 (w W : World) (zr : Array Value) (T : Nat) (bv : Value) (p : Nat) (ev : Value) : Prop :=
  Below w.heap.size w W ∧ HoldV W w.heap.size zr T ∧ Cur W (w.heap.size + 1) bv p ev
theorem DS0.start (w : World) (zr : Array Value) (T : Nat) (bv : Value) : DS0 w ((w.alloc (.cells zr T)).alloc (.cells #[bv, .int .i64 0, .nilIface] 65)) zr T bv 0 .nilIface := by
  obtain ⟨h1, h2, h3⟩ := two_allocs w (.cells zr T) (.cells #[bv, .int .i64 0, .nilIface] 65)
  exact ⟨h1, h2, h3⟩
theorem DS0.next {w W W' : World} {zr : Array Value} {T p : Nat} {bv ev : Value} (h : DS0 w W zr T bv p ev) (hb : Below W.heap.size W W') : DS0 w W' zr T bv p ev :=
  ⟨h.1.trans (hb.mono h.1.size), h.2.1.next hb, h.2.2.below hb h.2.2.lt⟩
theorem DS0.moved {w W W' : World} {zr : Array Value} {T p p' : Nat} {bv bv' ev ev' : Value} (h : DS0 w W zr T bv p ev) (hg : W.grownBy W' (some (w.heap.size + 1))) (hc : Cur W' (w.heap.size + 1) bv' p' ev') : DS0 w W' zr T bv' p' ev' :=
  ⟨h.1.trans (grown_under hg (Nat.le_succ _) h.1.size), h.2.1.kept hg (by intro e; injection e with e; omega), hc⟩
/-- The result's box, the cursor's, and that of what is read. -/
def DS1 (w W : World) (zr : Array Value) (T : Nat) (bv : Value) (p : Nat) (ev : Value) (F : Nat) (vs : Array Value) (U : Nat) : Prop :=
  DS0 w W zr T bv p ev ∧ HoldV W F vs U ∧ w.heap.size + 1 < F
theorem DS1.start {w W : World} {zr : Array Value} {T p : Nat} {bv ev : Value} (h : DS0 w W zr T bv p ev) (vs : Array Value) (U : Nat) : DS1 w (W.alloc (.cells vs U)) zr T bv p ev W.heap.size vs U :=
  ⟨h.next ((Below.refl _ _).alloc (Nat.le_refl _) _), heap_alloc_new _ _, h.2.2.lt⟩
theorem DS1.next {w W W' : World} {zr vs : Array Value} {T U F p : Nat} {bv ev : Value} (h : DS1 w W zr T bv p ev F vs U) (hb : Below W.heap.size W W') : DS1 w W' zr T bv p ev F vs U :=
  ⟨h.1.next hb, h.2.1.next hb, h.2.2⟩
theorem DS1.moved {w W W' : World} {zr vs : Array Value} {T U F p p' : Nat} {bv bv' ev ev' : Value} (h : DS1 w W zr T bv p ev F vs U) (hg : W.grownBy W' (some (w.heap.size + 1))) (hc : Cur W' (w.heap.size + 1) bv' p' ev') : DS1 w W' zr T bv' p' ev' F vs U :=
  ⟨h.1.moved hg hc, h.2.1.kept hg (by have := h.2.2; intro e; cases e; omega), h.2.2⟩
theorem DS1.set {w W : World} {zr vs : Array Value} {T U F p : Nat} {bv ev : Value} (h : DS1 w W zr T bv p ev F vs U) (i : Nat) (y : Value) : DS1 w (W.setCell ⟨F, i, none⟩ y) zr T bv p ev F (vs.setIfInBounds i y) U := by
  obtain ⟨⟨h1, h2, h3⟩, h4, h5⟩ := h
  have hg := grown_cell W F i y
  exact ⟨⟨h1.trans (grown_under hg (by omega) h1.size), h2.kept hg (by intro e; cases e; omega), h3.kept hg (by intro e; cases e; omega)⟩, h4.set i y, h5⟩
theorem DS1.drewN {w W : World} {zr vs : Array Value} {T U F p : Nat} {bv ev : Value} (h : DS1 w W zr T bv p ev F vs U) (m : Nat) : DS1 w (W.drewN m) zr T bv p ev F vs U := h.next (below_drewN (Below.refl _ _) m)
theorem DS1.drew {w W : World} {zr vs : Array Value} {T U F p : Nat} {bv ev : Value} (h : DS1 w W zr T bv p ev F vs U) : DS1 w W.drew zr T bv p ev F vs U := h.next ((Below.refl _ _).drew)
set_option maxRecDepth 100000
theorem and_15_i64 (x : Int) : bits .and .i64 x 15 = x % 16 :=
  and_mask .i64 4 (by decide) (fun n h0 h1 => wrap_i64' n h0 (by omega)) x
theorem version_walk (F : Nat) (x : Int) (w : World) (h : w.cell? ⟨F, 0, none⟩ = some (.int .i64 x)) : Calls Tryz.prog 79 #[.pointer (some ⟨F, 0, none⟩)] w fun e w' => e = .returned (.int .i64 (x / 16)) ∧ w' = w := by
  go_enter Tryz.func79, Tryz.ntmps79
  go_wp2
  go_ret
  exact ⟨rfl, rfl⟩
theorem hsize_walk (F : Nat) (x : Int) (w : World) (h : w.cell? ⟨F, 0, none⟩ = some (.int .i64 x)) : Calls Tryz.prog 74 #[.pointer (some ⟨F, 0, none⟩)] w fun e w' => e = .returned (.int .i64 (x % 16 * 4)) ∧ w' = w := by
  have ha := and_15_i64 x
  go_enter Tryz.func74, Tryz.ntmps74
  go_wp2
  go_ret
  exact ⟨rfl, rfl⟩

theorem and_8191_i64 (x : Int) : bits .and .i64 x 8191 = x % 8192 :=
  and_mask .i64 13 (by decide) (fun n h0 h1 => wrap_i64' n h0 (by omega)) x
theorem hoffset_walk (F : Nat) (x : Int) (w : World) (h : w.cell? ⟨F, 4, none⟩ = some (.int .i64 x)) : Calls Tryz.prog 76 #[.pointer (some ⟨F, 0, none⟩)] w fun e w' => e = .returned (.int .i64 (x % 8192 * 8)) ∧ w' = w := by
  have ha := and_8191_i64 x
  go_enter Tryz.func76, Tryz.ntmps76
  go_wp2
  go_ret
  exact ⟨rfl, rfl⟩
theorem has_walk (F : Nat) (x fl : Int) (w : World) (h : w.cell? ⟨F, 4, none⟩ = some (.int .i64 x)) : Calls Tryz.prog 75 #[.pointer (some ⟨F, 0, none⟩), .int .i64 fl] w fun e w' => e = .returned (.bool (bits .and .i64 x fl != 0)) ∧ w' = w := by
  go_enter Tryz.func75, Tryz.ntmps75
  go_wp2
  go_ret
  exact ⟨rfl, rfl⟩
set_option maxRecDepth 100000
theorem left0_walk (g n cap : Nat) (a : Option Addr) (ev : Value) (w : World) (hc : Cur w g (.slice a n cap) 0 ev) (hn : n ≤ 140737488355328) :
    Calls Tryz.prog 47 #[.pointer (some ⟨g, 0, none⟩)] w fun e w' => e = .returned (.int .i64 (n : Int)) ∧ ∃ m, w' = w.drewN m := by
  have h := left_walk g 0 n cap a ev w hc hn (Nat.zero_le _)
  rw [show (n : Int) - ((0 : Nat) : Int) = (n : Int) by omega] at h
  exact h
theorem tk1 (g p n cap b off : Nat) (zs : List Int) (w : World) (hc : Cur w g (.slice (some ⟨b, off, none⟩) n cap) p .nilIface) (hn : n ≤ 1048576) (hk : p + 1 ≤ n) (hcap : n ≤ cap) (hz : zs.length = n) (ha : Arr w (some ⟨b, off, none⟩) zs) (hb : b ≠ g) :
    Calls Tryz.prog 44 #[.pointer (some ⟨g, 0, none⟩), .int .i64 1] w fun e w' => e = .returned (.int .i64 (tnum ((zs.drop p).take 1))) ∧ Cur w' g (.slice (some ⟨b, off, none⟩) n cap) (p + 1) .nilIface ∧ w.grownBy w' (some g) :=
  take_ok g p n cap b off 1 zs w hc hn hk (by omega) hcap hz ha hb (by omega)
theorem ps2 (g p n cap b off : Nat) (w : World) (hc : Cur w g (.slice (some ⟨b, off, none⟩) n cap) p .nilIface) (hn : n ≤ 1048576) (hk : p + 2 ≤ n) (hcap : n ≤ cap) :
    Calls Tryz.prog 45 #[.pointer (some ⟨g, 0, none⟩), .int .i64 2] w fun e w' => e = .returned (.slice (some ⟨b, off + p, none⟩) 2 (cap - p)) ∧ Cur w' g (.slice (some ⟨b, off, none⟩) n cap) (p + 2) .nilIface ∧ w.grownBy w' (some g) :=
  pass_ok g p n cap b off 2 w hc (by omega) hk (by omega) hcap
theorem demand_if (g p : Nat) (bv : Value) (code : Int) (t : Bool) (w : World) (hc : Cur w g bv p .nilIface) :
    Calls Tryz.prog 31 #[.pointer (some ⟨g, 0, none⟩), .bool t, .int .i64 code] w fun e w' => e = .returned (.tuple #[]) ∧ Cur w' g bv p (if t then .nilIface else wErr code) ∧ w.grownBy w' (some g) := by
  cases t with
  | true =>
    refine (demand_yes g p bv code w hc).mono ?_
    rintro e w' ⟨rfl, rfl⟩
    exact ⟨rfl, hc, World.grownBy.refl _ _⟩
  | false => exact demand_no g p bv code w hc
set_option maxHeartbeats 1000000 in
theorem takeBytes_zero (g p n cap b off : Nat) (w : World) (hc : Cur w g (.slice (some ⟨b, off, none⟩) n cap) p .nilIface) (hn : n ≤ 1048576) (hp : p ≤ n) (hcap : n ≤ cap) :
    Calls Tryz.prog 46 #[.pointer (some ⟨g, 0, none⟩), .int .i64 0] w fun e w' => ∃ v, e = .returned v ∧ OwnB w' w.heap.size v [] ∧ Cur w' g (.slice (some ⟨b, off, none⟩) n cap) p .nilIface ∧ w.grownBy w' (some g) := by
  have CP := hide (pass_zero g p n cap b off w hc (by omega) hp hcap)
  obtain ⟨i, hi, hz0, hz1, hz2⟩ := info_parts Tryz.infoB
  have hs : (Tryz.prog.info? 5).map (·.size) = some 1 := by rw [hi]; simp [hz1]
  have HR := hide (fun w (d s : Option Addr) => run_copy_none (P := Tryz.prog) w 22 22 3 5 d s 0 0 0 (cap - p) Tryz.underlying22 hs (by simp))
  have hgl := hc.lt
  clear hi hz0 hz1 hz2 hs hc
  go_enter Tryz.func46, Tryz.ntmps46
  go_wp2_with fail
  refine CP.out.mono ?_
  rintro e w1 ⟨a', rfl, hc1, hg1⟩
  have rm : (Instr.makeSlice 22 (.int .i64 0) (.int .i64 0)).run Tryz.prog w1 = .ok (.slice (some ⟨w1.heap.size, 0, none⟩) 0 0) (w1.alloc (.cells (bval (List.replicate 0 0)).toArray 5)) := run_bytes 0 w1 (by omega)
  have hal := World.grownBy_alloc w1 (.cells (bval (List.replicate 0 0)).toArray 5) (some g)
  have hrow : RowB (w1.alloc (.cells (bval (List.replicate 0 0)).toArray 5)) w1.heap.size [] := heap_alloc_new _ _
  have HOW : Hid (OwnB _ w.heap.size (.slice (some ⟨w1.heap.size, 0, none⟩) 0 0) []) := hide (hrow.own (B := w.heap.size) hg1.size (by simp) (by simp))
  have HCW := hide (hc1.kept (World.grownBy_alloc w1 (.cells (bval (List.replicate 0 0)).toArray 5) none) (by simp))
  have HGW := hide (grown_trans hg1 hal)
  have hr := HR.out (w1.alloc (.cells (bval (List.replicate 0 0)).toArray 5)) (some ⟨w1.heap.size, 0, none⟩) a'
  clear hal hrow hc1 hg1 HR
  generalize w1.alloc (.cells (bval (List.replicate 0 0)).toArray 5) = W at *
  go_wp2_with fail
  go_ret
  exact ⟨_, rfl, HOW.out, HCW.out, HGW.out⟩
theorem takeBytes_any (g p n cap b off k : Nat) (zs : List Int) (w : World) (hc : Cur w g (.slice (some ⟨b, off, none⟩) n cap) p .nilIface) (hn : n ≤ 1048576) (hk : p + k ≤ n) (hcap : n ≤ cap) (hz : zs.length = n) (ha : Arr w (some ⟨b, off, none⟩) zs) (hb : b ≠ g) :
    Calls Tryz.prog 46 #[.pointer (some ⟨g, 0, none⟩), .int .i64 (k : Int)] w fun e w' => ∃ v, e = .returned v ∧ OwnB w' w.heap.size v ((zs.drop p).take k) ∧ Cur w' g (.slice (some ⟨b, off, none⟩) n cap) (p + k) .nilIface ∧ w.grownBy w' (some g) := by
  cases k with
  | zero => exact takeBytes_zero g p n cap b off w hc hn (by omega) hcap
  | succ j => exact takeBytes_ok g p n cap b off (j + 1) zs w hc hn hk (by omega) hcap hz ha hb
/-- A packet that is being read lies in block F. -/
def FR (w : World) (F : Nat) (y0 y1 y2 y3 y4 y5 y6 y7 y8 : Int) (vo vp : Value) : Prop := w.heap[F]? = some (.cells #[.int .i64 y0, .int .i64 y1, .int .i64 y2, .int .i64 y3, .int .i64 y4, .int .i64 y5, .int .i64 y6, .int .i64 y7, .int .i64 y8, vo, vp] 77)
theorem FR.lt {w : World} {F : Nat} {y0 y1 y2 y3 y4 y5 y6 y7 y8 : Int} {vo vp : Value} (h : FR w F y0 y1 y2 y3 y4 y5 y6 y7 y8 vo vp) : F < w.heap.size := (Array.getElem?_eq_some_iff.1 h).1
theorem FR.only {w w' : World} {F : Nat} {S : List Nat} {y0 y1 y2 y3 y4 y5 y6 y7 y8 : Int} {vo vp : Value} (h : FR w F y0 y1 y2 y3 y4 y5 y6 y7 y8 vo vp) (k : Only S w w') (hn : F ∉ S) : FR w' F y0 y1 y2 y3 y4 y5 y6 y7 y8 vo vp := (k.block F h.lt hn).trans h
theorem FR.drewN {w : World} {F : Nat} {y0 y1 y2 y3 y4 y5 y6 y7 y8 : Int} {vo vp : Value} (h : FR w F y0 y1 y2 y3 y4 y5 y6 y7 y8 vo vp) (m : Nat) : FR (w.drewN m) F y0 y1 y2 y3 y4 y5 y6 y7 y8 vo vp := h
theorem FR.drew {w : World} {F : Nat} {y0 y1 y2 y3 y4 y5 y6 y7 y8 : Int} {vo vp : Value} (h : FR w F y0 y1 y2 y3 y4 y5 y6 y7 y8 vo vp) : FR w.drew F y0 y1 y2 y3 y4 y5 y6 y7 y8 vo vp := h
theorem FR.cells {w : World} {F : Nat} {y0 y1 y2 y3 y4 y5 y6 y7 y8 : Int} {vo vp : Value} (h : FR w F y0 y1 y2 y3 y4 y5 y6 y7 y8 vo vp) : w.cell? ⟨F, 0, none⟩ = some (.int .i64 y0) ∧ w.cell? ⟨F, 1, none⟩ = some (.int .i64 y1) ∧ w.cell? ⟨F, 2, none⟩ = some (.int .i64 y2) ∧ w.cell? ⟨F, 3, none⟩ = some (.int .i64 y3) ∧ w.cell? ⟨F, 4, none⟩ = some (.int .i64 y4) ∧ w.cell? ⟨F, 5, none⟩ = some (.int .i64 y5) ∧ w.cell? ⟨F, 6, none⟩ = some (.int .i64 y6) ∧ w.cell? ⟨F, 7, none⟩ = some (.int .i64 y7) ∧ w.cell? ⟨F, 8, none⟩ = some (.int .i64 y8) ∧ w.cell? ⟨F, 9, none⟩ = some vo ∧ w.cell? ⟨F, 10, none⟩ = some vp ∧ ∀ o, w.frozen? ⟨F, o, none⟩ = false :=
  ⟨cell_of_row w F 0 _ _ _ h, cell_of_row w F 1 _ _ _ h, cell_of_row w F 2 _ _ _ h, cell_of_row w F 3 _ _ _ h, cell_of_row w F 4 _ _ _ h, cell_of_row w F 5 _ _ _ h, cell_of_row w F 6 _ _ _ h, cell_of_row w F 7 _ _ _ h, cell_of_row w F 8 _ _ _ h, cell_of_row w F 9 _ _ _ h, cell_of_row w F 10 _ _ _ h, fun o => frozen_of_row w F o _ _ h⟩
theorem FR.set0 {w : World} {F : Nat} {y0 y1 y2 y3 y4 y5 y6 y7 y8 : Int} {vo vp : Value} (h : FR w F y0 y1 y2 y3 y4 y5 y6 y7 y8 vo vp) (u : Int) : FR (w.setCell ⟨F, 0, none⟩ (.int .i64 u)) F u y1 y2 y3 y4 y5 y6 y7 y8 vo vp := heap_setCell_same w F 0 _ _ _ h
theorem FR.set1 {w : World} {F : Nat} {y0 y1 y2 y3 y4 y5 y6 y7 y8 : Int} {vo vp : Value} (h : FR w F y0 y1 y2 y3 y4 y5 y6 y7 y8 vo vp) (u : Int) : FR (w.setCell ⟨F, 1, none⟩ (.int .i64 u)) F y0 u y2 y3 y4 y5 y6 y7 y8 vo vp := heap_setCell_same w F 1 _ _ _ h
theorem FR.set2 {w : World} {F : Nat} {y0 y1 y2 y3 y4 y5 y6 y7 y8 : Int} {vo vp : Value} (h : FR w F y0 y1 y2 y3 y4 y5 y6 y7 y8 vo vp) (u : Int) : FR (w.setCell ⟨F, 2, none⟩ (.int .i64 u)) F y0 y1 u y3 y4 y5 y6 y7 y8 vo vp := heap_setCell_same w F 2 _ _ _ h
theorem FR.set3 {w : World} {F : Nat} {y0 y1 y2 y3 y4 y5 y6 y7 y8 : Int} {vo vp : Value} (h : FR w F y0 y1 y2 y3 y4 y5 y6 y7 y8 vo vp) (u : Int) : FR (w.setCell ⟨F, 3, none⟩ (.int .i64 u)) F y0 y1 y2 u y4 y5 y6 y7 y8 vo vp := heap_setCell_same w F 3 _ _ _ h
theorem FR.set4 {w : World} {F : Nat} {y0 y1 y2 y3 y4 y5 y6 y7 y8 : Int} {vo vp : Value} (h : FR w F y0 y1 y2 y3 y4 y5 y6 y7 y8 vo vp) (u : Int) : FR (w.setCell ⟨F, 4, none⟩ (.int .i64 u)) F y0 y1 y2 y3 u y5 y6 y7 y8 vo vp := heap_setCell_same w F 4 _ _ _ h
theorem FR.set5 {w : World} {F : Nat} {y0 y1 y2 y3 y4 y5 y6 y7 y8 : Int} {vo vp : Value} (h : FR w F y0 y1 y2 y3 y4 y5 y6 y7 y8 vo vp) (u : Int) : FR (w.setCell ⟨F, 5, none⟩ (.int .i64 u)) F y0 y1 y2 y3 y4 u y6 y7 y8 vo vp := heap_setCell_same w F 5 _ _ _ h
theorem FR.set6 {w : World} {F : Nat} {y0 y1 y2 y3 y4 y5 y6 y7 y8 : Int} {vo vp : Value} (h : FR w F y0 y1 y2 y3 y4 y5 y6 y7 y8 vo vp) (u : Int) : FR (w.setCell ⟨F, 6, none⟩ (.int .i64 u)) F y0 y1 y2 y3 y4 y5 u y7 y8 vo vp := heap_setCell_same w F 6 _ _ _ h
theorem FR.set7 {w : World} {F : Nat} {y0 y1 y2 y3 y4 y5 y6 y7 y8 : Int} {vo vp : Value} (h : FR w F y0 y1 y2 y3 y4 y5 y6 y7 y8 vo vp) (u : Int) : FR (w.setCell ⟨F, 7, none⟩ (.int .i64 u)) F y0 y1 y2 y3 y4 y5 y6 u y8 vo vp := heap_setCell_same w F 7 _ _ _ h
theorem FR.set8 {w : World} {F : Nat} {y0 y1 y2 y3 y4 y5 y6 y7 y8 : Int} {vo vp : Value} (h : FR w F y0 y1 y2 y3 y4 y5 y6 y7 y8 vo vp) (u : Int) : FR (w.setCell ⟨F, 8, none⟩ (.int .i64 u)) F y0 y1 y2 y3 y4 y5 y6 y7 u vo vp := heap_setCell_same w F 8 _ _ _ h
theorem FR.set9 {w : World} {F : Nat} {y0 y1 y2 y3 y4 y5 y6 y7 y8 : Int} {vo vp : Value} (h : FR w F y0 y1 y2 y3 y4 y5 y6 y7 y8 vo vp) (u : Value) : FR (w.setCell ⟨F, 9, none⟩ u) F y0 y1 y2 y3 y4 y5 y6 y7 y8 u vp := heap_setCell_same w F 9 _ _ _ h
theorem FR.set10 {w : World} {F : Nat} {y0 y1 y2 y3 y4 y5 y6 y7 y8 : Int} {vo vp : Value} (h : FR w F y0 y1 y2 y3 y4 y5 y6 y7 y8 vo vp) (u : Value) : FR (w.setCell ⟨F, 10, none⟩ u) F y0 y1 y2 y3 y4 y5 y6 y7 y8 vo u := heap_setCell_same w F 10 _ _ _ h
theorem only_cell {w : World} {g F : Nat} (i : Nat) (u : Value) : Only [g, F] w (w.setCell ⟨F, i, none⟩ u) := (Only.of_some (grown_cell w F i u)).mono (by simp)
theorem only_g {w w' : World} {g F : Nat} (h : w.grownBy w' (some g)) : Only [g, F] w w' := (Only.of_some h).mono (by simp)
theorem only_drew {S : List Nat} (w : World) : Only S w w.drew := ⟨rfl, rfl, rfl, Nat.le_refl _, fun _ _ _ => rfl⟩
theorem only_drewN {S : List Nat} (w : World) (m : Nat) : Only S w (w.drewN m) := ⟨rfl, rfl, rfl, Nat.le_refl _, fun _ _ _ => rfl⟩
theorem passed_zero (g n cap : Nat) (a : Option Addr) (ev : Value) (w : World) (hc : Cur w g (.slice a n cap) 0 ev) : Calls Tryz.prog 72 #[.pointer (some ⟨g, 0, none⟩)] w fun e w' => (∃ a2, e = .returned (.slice a2 0 cap)) ∧ ∃ m, w' = w.drewN m := by
  obtain ⟨c0, c1, c2, cf⟩ := hc.cells
  have hs : ∀ w : World, (sizeOf (Tryz.prog.elem 22)).run Tryz.prog w = .ok 1 w := fun w => Tryz.sizeOf5 w
  have sl : ∀ w : World, (Instr.slice 22 (.slice a n cap) none (some (.int .i64 0)) none).run Tryz.prog w = .ok (.slice (if cap = 0 then a else a.map (·.add 0)) 0 cap) w := fun w => by
    rw [run_slice_h (P := Tryz.prog) (w := w) 22 a n cap Tryz.underlying22 .i64 0 (by omega) (by omega), hs]
    simp [sliced, Result.andThen]
  generalize (if cap = 0 then a else a.map (·.add 0)) = a2 at sl
  clear hc hs
  go_enter Tryz.func72, Tryz.ntmps72
  go_wp2
  go_quiet (fail)
  go_wp2
  go_ret
  exact ⟨⟨_, rfl⟩, _, rfl⟩
end Go.Proofs.YthbkhfiadkookaaGreatDoor
