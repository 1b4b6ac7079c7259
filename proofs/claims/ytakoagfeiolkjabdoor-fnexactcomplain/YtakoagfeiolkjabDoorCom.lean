/-
Contracts of functions of this seat.
-/
import Derived.Test.YtakoagfeiolkjabDoorRows
import Derived.WalkKit
import Derived.ProofKit
import Derived.OpenShut
import Derived.Test.YtakoagfeiolkjabDoorPk1
namespace Go.Proofs.YtakoagfeiolkjabDoor
open Go.ChangeShapes Go.WideShapes Go.ChangeAt Go.RowKit
set_option linter.unusedVariables false
set_option maxRecDepth 100000
set_option maxHeartbeats 4000000 in
theorem specCom_may (x0 x1 : Int) (x2 x3 : Bool) (x4 x5 x6 x7 x8 : Int) (a0 : Option Addr) (n0 c0 : Nat) (a1 : Option Addr) (n1 c1 : Nat) (from_ kind_ code_ rest_ : Int) (M : Bool) (w : World) (hM : M = false)
   (cM : ∀ W, Below w.heap.size w W → Calls Tryd.prog 71 #[.agg #[.int .i64 x0, .int .i64 x1, .bool x2, .bool x3, .int .i64 x4, .int .i64 x5, .int .i64 x6, .int .i64 x7, .int .i64 x8, .slice a0 n0 c0, .slice a1 n1 c1]] W fun e w' => e = .returned (.bool M) ∧ Below W.heap.size W w') :
    Calls Tryd.prog 33 #[.agg #[.int .i64 x0, .int .i64 x1, .bool x2, .bool x3, .int .i64 x4, .int .i64 x5, .int .i64 x6, .int .i64 x7, .int .i64 x8, .slice a0 n0 c0, .slice a1 n1 c1], .int .i64 from_, .int .i64 kind_, .int .i64 code_, .int .i64 rest_] w fun e w' => e = .returned (.tuple #[.agg #[.int .i64 0, .int .i64 0, .bool false, .bool false, .int .i64 0, .int .i64 0, .int .i64 0, .int .i64 0, .int .i64 0, .slice none 0 0, .slice none 0 0], .int .i64 1]) ∧ Below w.heap.size w w' := by
  have HT := hide (TwoB.start w (.cells #[.int .i64 x0, .int .i64 x1, .bool x2, .bool x3, .int .i64 x4, .int .i64 x5, .int .i64 x6, .int .i64 x7, .int .i64 x8, .slice a0 n0 c0, .slice a1 n1 c1] 47) (.cells #[.int .i64 0, .int .i64 0, .bool false, .bool false, .int .i64 0, .int .i64 0, .int .i64 0, .int .i64 0, .int .i64 0, .slice none 0 0, .slice none 0 0] 47))
  have CM := hide cM
  clear cM
  subst hM
  have p0 : ((w.alloc (.cells #[.int .i64 x0, .int .i64 x1, .bool x2, .bool x3, .int .i64 x4, .int .i64 x5, .int .i64 x6, .int .i64 x7, .int .i64 x8, .slice a0 n0 c0, .slice a1 n1 c1] 47)).alloc (.cells #[.int .i64 0, .int .i64 0, .bool false, .bool false, .int .i64 0, .int .i64 0, .int .i64 0, .int .i64 0, .int .i64 0, .slice none 0 0, .slice none 0 0] 47)).cell? ⟨w.heap.size, 0, none⟩ = some (.int .i64 x0) := cell_of_row _ _ 0 _ _ _ HT.out.2.1
  have p1 : ((w.alloc (.cells #[.int .i64 x0, .int .i64 x1, .bool x2, .bool x3, .int .i64 x4, .int .i64 x5, .int .i64 x6, .int .i64 x7, .int .i64 x8, .slice a0 n0 c0, .slice a1 n1 c1] 47)).alloc (.cells #[.int .i64 0, .int .i64 0, .bool false, .bool false, .int .i64 0, .int .i64 0, .int .i64 0, .int .i64 0, .int .i64 0, .slice none 0 0, .slice none 0 0] 47)).cell? ⟨w.heap.size, 1, none⟩ = some (.int .i64 x1) := cell_of_row _ _ 1 _ _ _ HT.out.2.1
  have p2 : ((w.alloc (.cells #[.int .i64 x0, .int .i64 x1, .bool x2, .bool x3, .int .i64 x4, .int .i64 x5, .int .i64 x6, .int .i64 x7, .int .i64 x8, .slice a0 n0 c0, .slice a1 n1 c1] 47)).alloc (.cells #[.int .i64 0, .int .i64 0, .bool false, .bool false, .int .i64 0, .int .i64 0, .int .i64 0, .int .i64 0, .int .i64 0, .slice none 0 0, .slice none 0 0] 47)).cell? ⟨w.heap.size, 2, none⟩ = some (.bool x2) := cell_of_row _ _ 2 _ _ _ HT.out.2.1
  have p3 : ((w.alloc (.cells #[.int .i64 x0, .int .i64 x1, .bool x2, .bool x3, .int .i64 x4, .int .i64 x5, .int .i64 x6, .int .i64 x7, .int .i64 x8, .slice a0 n0 c0, .slice a1 n1 c1] 47)).alloc (.cells #[.int .i64 0, .int .i64 0, .bool false, .bool false, .int .i64 0, .int .i64 0, .int .i64 0, .int .i64 0, .int .i64 0, .slice none 0 0, .slice none 0 0] 47)).cell? ⟨w.heap.size, 3, none⟩ = some (.bool x3) := cell_of_row _ _ 3 _ _ _ HT.out.2.1
  have p4 : ((w.alloc (.cells #[.int .i64 x0, .int .i64 x1, .bool x2, .bool x3, .int .i64 x4, .int .i64 x5, .int .i64 x6, .int .i64 x7, .int .i64 x8, .slice a0 n0 c0, .slice a1 n1 c1] 47)).alloc (.cells #[.int .i64 0, .int .i64 0, .bool false, .bool false, .int .i64 0, .int .i64 0, .int .i64 0, .int .i64 0, .int .i64 0, .slice none 0 0, .slice none 0 0] 47)).cell? ⟨w.heap.size, 4, none⟩ = some (.int .i64 x4) := cell_of_row _ _ 4 _ _ _ HT.out.2.1
  have p5 : ((w.alloc (.cells #[.int .i64 x0, .int .i64 x1, .bool x2, .bool x3, .int .i64 x4, .int .i64 x5, .int .i64 x6, .int .i64 x7, .int .i64 x8, .slice a0 n0 c0, .slice a1 n1 c1] 47)).alloc (.cells #[.int .i64 0, .int .i64 0, .bool false, .bool false, .int .i64 0, .int .i64 0, .int .i64 0, .int .i64 0, .int .i64 0, .slice none 0 0, .slice none 0 0] 47)).cell? ⟨w.heap.size, 5, none⟩ = some (.int .i64 x5) := cell_of_row _ _ 5 _ _ _ HT.out.2.1
  have p6 : ((w.alloc (.cells #[.int .i64 x0, .int .i64 x1, .bool x2, .bool x3, .int .i64 x4, .int .i64 x5, .int .i64 x6, .int .i64 x7, .int .i64 x8, .slice a0 n0 c0, .slice a1 n1 c1] 47)).alloc (.cells #[.int .i64 0, .int .i64 0, .bool false, .bool false, .int .i64 0, .int .i64 0, .int .i64 0, .int .i64 0, .int .i64 0, .slice none 0 0, .slice none 0 0] 47)).cell? ⟨w.heap.size, 6, none⟩ = some (.int .i64 x6) := cell_of_row _ _ 6 _ _ _ HT.out.2.1
  have p7 : ((w.alloc (.cells #[.int .i64 x0, .int .i64 x1, .bool x2, .bool x3, .int .i64 x4, .int .i64 x5, .int .i64 x6, .int .i64 x7, .int .i64 x8, .slice a0 n0 c0, .slice a1 n1 c1] 47)).alloc (.cells #[.int .i64 0, .int .i64 0, .bool false, .bool false, .int .i64 0, .int .i64 0, .int .i64 0, .int .i64 0, .int .i64 0, .slice none 0 0, .slice none 0 0] 47)).cell? ⟨w.heap.size, 7, none⟩ = some (.int .i64 x7) := cell_of_row _ _ 7 _ _ _ HT.out.2.1
  have p8 : ((w.alloc (.cells #[.int .i64 x0, .int .i64 x1, .bool x2, .bool x3, .int .i64 x4, .int .i64 x5, .int .i64 x6, .int .i64 x7, .int .i64 x8, .slice a0 n0 c0, .slice a1 n1 c1] 47)).alloc (.cells #[.int .i64 0, .int .i64 0, .bool false, .bool false, .int .i64 0, .int .i64 0, .int .i64 0, .int .i64 0, .int .i64 0, .slice none 0 0, .slice none 0 0] 47)).cell? ⟨w.heap.size, 8, none⟩ = some (.int .i64 x8) := cell_of_row _ _ 8 _ _ _ HT.out.2.1
  have p9 : ((w.alloc (.cells #[.int .i64 x0, .int .i64 x1, .bool x2, .bool x3, .int .i64 x4, .int .i64 x5, .int .i64 x6, .int .i64 x7, .int .i64 x8, .slice a0 n0 c0, .slice a1 n1 c1] 47)).alloc (.cells #[.int .i64 0, .int .i64 0, .bool false, .bool false, .int .i64 0, .int .i64 0, .int .i64 0, .int .i64 0, .int .i64 0, .slice none 0 0, .slice none 0 0] 47)).cell? ⟨w.heap.size, 9, none⟩ = some (.slice a0 n0 c0) := cell_of_row _ _ 9 _ _ _ HT.out.2.1
  have p10 : ((w.alloc (.cells #[.int .i64 x0, .int .i64 x1, .bool x2, .bool x3, .int .i64 x4, .int .i64 x5, .int .i64 x6, .int .i64 x7, .int .i64 x8, .slice a0 n0 c0, .slice a1 n1 c1] 47)).alloc (.cells #[.int .i64 0, .int .i64 0, .bool false, .bool false, .int .i64 0, .int .i64 0, .int .i64 0, .int .i64 0, .int .i64 0, .slice none 0 0, .slice none 0 0] 47)).cell? ⟨w.heap.size, 10, none⟩ = some (.slice a1 n1 c1) := cell_of_row _ _ 10 _ _ _ HT.out.2.1
  go_enter Tryd.func33, Tryd.ntmps33
  go_wp2_with fail
  generalize (w.alloc (.cells #[.int .i64 x0, .int .i64 x1, .bool x2, .bool x3, .int .i64 x4, .int .i64 x5, .int .i64 x6, .int .i64 x7, .int .i64 x8, .slice a0 n0 c0, .slice a1 n1 c1] 47)).alloc (.cells #[.int .i64 0, .int .i64 0, .bool false, .bool false, .int .i64 0, .int .i64 0, .int .i64 0, .int .i64 0, .int .i64 0, .slice none 0 0, .slice none 0 0] 47) = W0 at *
  clear p0 p1 p2 p3 p4 p5 p6 p7 p8 p9 p10
  refine (CM.out _ HT.out.1.1).mono ?_
  rintro e w1 ⟨rfl, hb⟩
  replace HT := hide (HT.out.next hb)
  clear hb
  have r0 : (w1).cell? ⟨w.heap.size + 1, 0, none⟩ = some (.int .i64 0) := cell_of_row _ _ 0 _ _ _ HT.out.2.2
  have r1 : (w1).cell? ⟨w.heap.size + 1, 1, none⟩ = some (.int .i64 0) := cell_of_row _ _ 1 _ _ _ HT.out.2.2
  have r2 : (w1).cell? ⟨w.heap.size + 1, 2, none⟩ = some (.bool false) := cell_of_row _ _ 2 _ _ _ HT.out.2.2
  have r3 : (w1).cell? ⟨w.heap.size + 1, 3, none⟩ = some (.bool false) := cell_of_row _ _ 3 _ _ _ HT.out.2.2
  have r4 : (w1).cell? ⟨w.heap.size + 1, 4, none⟩ = some (.int .i64 0) := cell_of_row _ _ 4 _ _ _ HT.out.2.2
  have r5 : (w1).cell? ⟨w.heap.size + 1, 5, none⟩ = some (.int .i64 0) := cell_of_row _ _ 5 _ _ _ HT.out.2.2
  have r6 : (w1).cell? ⟨w.heap.size + 1, 6, none⟩ = some (.int .i64 0) := cell_of_row _ _ 6 _ _ _ HT.out.2.2
  have r7 : (w1).cell? ⟨w.heap.size + 1, 7, none⟩ = some (.int .i64 0) := cell_of_row _ _ 7 _ _ _ HT.out.2.2
  have r8 : (w1).cell? ⟨w.heap.size + 1, 8, none⟩ = some (.int .i64 0) := cell_of_row _ _ 8 _ _ _ HT.out.2.2
  have r9 : (w1).cell? ⟨w.heap.size + 1, 9, none⟩ = some (.slice none 0 0) := cell_of_row _ _ 9 _ _ _ HT.out.2.2
  have r10 : (w1).cell? ⟨w.heap.size + 1, 10, none⟩ = some (.slice none 0 0) := cell_of_row _ _ 10 _ _ _ HT.out.2.2
  have rf : ∀ q, w1.frozen? ⟨w.heap.size + 1, q, none⟩ = false := fun q => frozen_of_row _ _ q _ _ HT.out.2.2
  go_wp2_with (first | (go_at_call 46; refine (specAddrOK_walk _ _).mono ?_; rintro e w' ⟨rfl, rfl⟩) | (go_at_call 37; refine (In_walk _ _ _ _).mono ?_; rintro e w' ⟨rfl, rfl⟩))
  exact bodyPost_ret (v := .tuple #[.agg #[.int .i64 0, .int .i64 0, .bool false, .bool false, .int .i64 0, .int .i64 0, .int .i64 0, .int .i64 0, .int .i64 0, .slice none 0 0, .slice none 0 0], .int .i64 1]) (by simp [results, Tryd.results33, go_sem, r0, r1, r2, r3, r4, r5, r6, r7, r8, r9, r10]) rfl ⟨rfl, (below_11n HT.out.1.1 (Nat.le_succ _))⟩
set_option maxHeartbeats 4000000 in
theorem specCom_from (x0 x1 : Int) (x2 x3 : Bool) (x4 x5 x6 x7 x8 : Int) (a0 : Option Addr) (n0 c0 : Nat) (a1 : Option Addr) (n1 c1 : Nat) (from_ kind_ code_ rest_ : Int) (M : Bool) (w : World) (hM : M = true) (h1 : adrB from_ = false)
   (cM : ∀ W, Below w.heap.size w W → Calls Tryd.prog 71 #[.agg #[.int .i64 x0, .int .i64 x1, .bool x2, .bool x3, .int .i64 x4, .int .i64 x5, .int .i64 x6, .int .i64 x7, .int .i64 x8, .slice a0 n0 c0, .slice a1 n1 c1]] W fun e w' => e = .returned (.bool M) ∧ Below W.heap.size W w') :
    Calls Tryd.prog 33 #[.agg #[.int .i64 x0, .int .i64 x1, .bool x2, .bool x3, .int .i64 x4, .int .i64 x5, .int .i64 x6, .int .i64 x7, .int .i64 x8, .slice a0 n0 c0, .slice a1 n1 c1], .int .i64 from_, .int .i64 kind_, .int .i64 code_, .int .i64 rest_] w fun e w' => e = .returned (.tuple #[.agg #[.int .i64 0, .int .i64 0, .bool false, .bool false, .int .i64 0, .int .i64 0, .int .i64 0, .int .i64 0, .int .i64 0, .slice none 0 0, .slice none 0 0], .int .i64 1]) ∧ Below w.heap.size w w' := by
  have HT := hide (TwoB.start w (.cells #[.int .i64 x0, .int .i64 x1, .bool x2, .bool x3, .int .i64 x4, .int .i64 x5, .int .i64 x6, .int .i64 x7, .int .i64 x8, .slice a0 n0 c0, .slice a1 n1 c1] 47) (.cells #[.int .i64 0, .int .i64 0, .bool false, .bool false, .int .i64 0, .int .i64 0, .int .i64 0, .int .i64 0, .int .i64 0, .slice none 0 0, .slice none 0 0] 47))
  have CM := hide cM
  clear cM
  subst hM
  have p0 : ((w.alloc (.cells #[.int .i64 x0, .int .i64 x1, .bool x2, .bool x3, .int .i64 x4, .int .i64 x5, .int .i64 x6, .int .i64 x7, .int .i64 x8, .slice a0 n0 c0, .slice a1 n1 c1] 47)).alloc (.cells #[.int .i64 0, .int .i64 0, .bool false, .bool false, .int .i64 0, .int .i64 0, .int .i64 0, .int .i64 0, .int .i64 0, .slice none 0 0, .slice none 0 0] 47)).cell? ⟨w.heap.size, 0, none⟩ = some (.int .i64 x0) := cell_of_row _ _ 0 _ _ _ HT.out.2.1
  have p1 : ((w.alloc (.cells #[.int .i64 x0, .int .i64 x1, .bool x2, .bool x3, .int .i64 x4, .int .i64 x5, .int .i64 x6, .int .i64 x7, .int .i64 x8, .slice a0 n0 c0, .slice a1 n1 c1] 47)).alloc (.cells #[.int .i64 0, .int .i64 0, .bool false, .bool false, .int .i64 0, .int .i64 0, .int .i64 0, .int .i64 0, .int .i64 0, .slice none 0 0, .slice none 0 0] 47)).cell? ⟨w.heap.size, 1, none⟩ = some (.int .i64 x1) := cell_of_row _ _ 1 _ _ _ HT.out.2.1
  have p2 : ((w.alloc (.cells #[.int .i64 x0, .int .i64 x1, .bool x2, .bool x3, .int .i64 x4, .int .i64 x5, .int .i64 x6, .int .i64 x7, .int .i64 x8, .slice a0 n0 c0, .slice a1 n1 c1] 47)).alloc (.cells #[.int .i64 0, .int .i64 0, .bool false, .bool false, .int .i64 0, .int .i64 0, .int .i64 0, .int .i64 0, .int .i64 0, .slice none 0 0, .slice none 0 0] 47)).cell? ⟨w.heap.size, 2, none⟩ = some (.bool x2) := cell_of_row _ _ 2 _ _ _ HT.out.2.1
  have p3 : ((w.alloc (.cells #[.int .i64 x0, .int .i64 x1, .bool x2, .bool x3, .int .i64 x4, .int .i64 x5, .int .i64 x6, .int .i64 x7, .int .i64 x8, .slice a0 n0 c0, .slice a1 n1 c1] 47)).alloc (.cells #[.int .i64 0, .int .i64 0, .bool false, .bool false, .int .i64 0, .int .i64 0, .int .i64 0, .int .i64 0, .int .i64 0, .slice none 0 0, .slice none 0 0] 47)).cell? ⟨w.heap.size, 3, none⟩ = some (.bool x3) := cell_of_row _ _ 3 _ _ _ HT.out.2.1
  have p4 : ((w.alloc (.cells #[.int .i64 x0, .int .i64 x1, .bool x2, .bool x3, .int .i64 x4, .int .i64 x5, .int .i64 x6, .int .i64 x7, .int .i64 x8, .slice a0 n0 c0, .slice a1 n1 c1] 47)).alloc (.cells #[.int .i64 0, .int .i64 0, .bool false, .bool false, .int .i64 0, .int .i64 0, .int .i64 0, .int .i64 0, .int .i64 0, .slice none 0 0, .slice none 0 0] 47)).cell? ⟨w.heap.size, 4, none⟩ = some (.int .i64 x4) := cell_of_row _ _ 4 _ _ _ HT.out.2.1
  have p5 : ((w.alloc (.cells #[.int .i64 x0, .int .i64 x1, .bool x2, .bool x3, .int .i64 x4, .int .i64 x5, .int .i64 x6, .int .i64 x7, .int .i64 x8, .slice a0 n0 c0, .slice a1 n1 c1] 47)).alloc (.cells #[.int .i64 0, .int .i64 0, .bool false, .bool false, .int .i64 0, .int .i64 0, .int .i64 0, .int .i64 0, .int .i64 0, .slice none 0 0, .slice none 0 0] 47)).cell? ⟨w.heap.size, 5, none⟩ = some (.int .i64 x5) := cell_of_row _ _ 5 _ _ _ HT.out.2.1
  have p6 : ((w.alloc (.cells #[.int .i64 x0, .int .i64 x1, .bool x2, .bool x3, .int .i64 x4, .int .i64 x5, .int .i64 x6, .int .i64 x7, .int .i64 x8, .slice a0 n0 c0, .slice a1 n1 c1] 47)).alloc (.cells #[.int .i64 0, .int .i64 0, .bool false, .bool false, .int .i64 0, .int .i64 0, .int .i64 0, .int .i64 0, .int .i64 0, .slice none 0 0, .slice none 0 0] 47)).cell? ⟨w.heap.size, 6, none⟩ = some (.int .i64 x6) := cell_of_row _ _ 6 _ _ _ HT.out.2.1
  have p7 : ((w.alloc (.cells #[.int .i64 x0, .int .i64 x1, .bool x2, .bool x3, .int .i64 x4, .int .i64 x5, .int .i64 x6, .int .i64 x7, .int .i64 x8, .slice a0 n0 c0, .slice a1 n1 c1] 47)).alloc (.cells #[.int .i64 0, .int .i64 0, .bool false, .bool false, .int .i64 0, .int .i64 0, .int .i64 0, .int .i64 0, .int .i64 0, .slice none 0 0, .slice none 0 0] 47)).cell? ⟨w.heap.size, 7, none⟩ = some (.int .i64 x7) := cell_of_row _ _ 7 _ _ _ HT.out.2.1
  have p8 : ((w.alloc (.cells #[.int .i64 x0, .int .i64 x1, .bool x2, .bool x3, .int .i64 x4, .int .i64 x5, .int .i64 x6, .int .i64 x7, .int .i64 x8, .slice a0 n0 c0, .slice a1 n1 c1] 47)).alloc (.cells #[.int .i64 0, .int .i64 0, .bool false, .bool false, .int .i64 0, .int .i64 0, .int .i64 0, .int .i64 0, .int .i64 0, .slice none 0 0, .slice none 0 0] 47)).cell? ⟨w.heap.size, 8, none⟩ = some (.int .i64 x8) := cell_of_row _ _ 8 _ _ _ HT.out.2.1
  have p9 : ((w.alloc (.cells #[.int .i64 x0, .int .i64 x1, .bool x2, .bool x3, .int .i64 x4, .int .i64 x5, .int .i64 x6, .int .i64 x7, .int .i64 x8, .slice a0 n0 c0, .slice a1 n1 c1] 47)).alloc (.cells #[.int .i64 0, .int .i64 0, .bool false, .bool false, .int .i64 0, .int .i64 0, .int .i64 0, .int .i64 0, .int .i64 0, .slice none 0 0, .slice none 0 0] 47)).cell? ⟨w.heap.size, 9, none⟩ = some (.slice a0 n0 c0) := cell_of_row _ _ 9 _ _ _ HT.out.2.1
  have p10 : ((w.alloc (.cells #[.int .i64 x0, .int .i64 x1, .bool x2, .bool x3, .int .i64 x4, .int .i64 x5, .int .i64 x6, .int .i64 x7, .int .i64 x8, .slice a0 n0 c0, .slice a1 n1 c1] 47)).alloc (.cells #[.int .i64 0, .int .i64 0, .bool false, .bool false, .int .i64 0, .int .i64 0, .int .i64 0, .int .i64 0, .int .i64 0, .slice none 0 0, .slice none 0 0] 47)).cell? ⟨w.heap.size, 10, none⟩ = some (.slice a1 n1 c1) := cell_of_row _ _ 10 _ _ _ HT.out.2.1
  go_enter Tryd.func33, Tryd.ntmps33
  go_wp2_with fail
  generalize (w.alloc (.cells #[.int .i64 x0, .int .i64 x1, .bool x2, .bool x3, .int .i64 x4, .int .i64 x5, .int .i64 x6, .int .i64 x7, .int .i64 x8, .slice a0 n0 c0, .slice a1 n1 c1] 47)).alloc (.cells #[.int .i64 0, .int .i64 0, .bool false, .bool false, .int .i64 0, .int .i64 0, .int .i64 0, .int .i64 0, .int .i64 0, .slice none 0 0, .slice none 0 0] 47) = W0 at *
  clear p0 p1 p2 p3 p4 p5 p6 p7 p8 p9 p10
  refine (CM.out _ HT.out.1.1).mono ?_
  rintro e w1 ⟨rfl, hb⟩
  replace HT := hide (HT.out.next hb)
  clear hb
  have r0 : (w1).cell? ⟨w.heap.size + 1, 0, none⟩ = some (.int .i64 0) := cell_of_row _ _ 0 _ _ _ HT.out.2.2
  have r1 : (w1).cell? ⟨w.heap.size + 1, 1, none⟩ = some (.int .i64 0) := cell_of_row _ _ 1 _ _ _ HT.out.2.2
  have r2 : (w1).cell? ⟨w.heap.size + 1, 2, none⟩ = some (.bool false) := cell_of_row _ _ 2 _ _ _ HT.out.2.2
  have r3 : (w1).cell? ⟨w.heap.size + 1, 3, none⟩ = some (.bool false) := cell_of_row _ _ 3 _ _ _ HT.out.2.2
  have r4 : (w1).cell? ⟨w.heap.size + 1, 4, none⟩ = some (.int .i64 0) := cell_of_row _ _ 4 _ _ _ HT.out.2.2
  have r5 : (w1).cell? ⟨w.heap.size + 1, 5, none⟩ = some (.int .i64 0) := cell_of_row _ _ 5 _ _ _ HT.out.2.2
  have r6 : (w1).cell? ⟨w.heap.size + 1, 6, none⟩ = some (.int .i64 0) := cell_of_row _ _ 6 _ _ _ HT.out.2.2
  have r7 : (w1).cell? ⟨w.heap.size + 1, 7, none⟩ = some (.int .i64 0) := cell_of_row _ _ 7 _ _ _ HT.out.2.2
  have r8 : (w1).cell? ⟨w.heap.size + 1, 8, none⟩ = some (.int .i64 0) := cell_of_row _ _ 8 _ _ _ HT.out.2.2
  have r9 : (w1).cell? ⟨w.heap.size + 1, 9, none⟩ = some (.slice none 0 0) := cell_of_row _ _ 9 _ _ _ HT.out.2.2
  have r10 : (w1).cell? ⟨w.heap.size + 1, 10, none⟩ = some (.slice none 0 0) := cell_of_row _ _ 10 _ _ _ HT.out.2.2
  have rf : ∀ q, w1.frozen? ⟨w.heap.size + 1, q, none⟩ = false := fun q => frozen_of_row _ _ q _ _ HT.out.2.2
  go_wp2_with (first | (go_at_call 46; refine (specAddrOK_walk _ _).mono ?_; rintro e w' ⟨rfl, rfl⟩) | (go_at_call 37; refine (In_walk _ _ _ _).mono ?_; rintro e w' ⟨rfl, rfl⟩))
  exact bodyPost_ret (v := .tuple #[.agg #[.int .i64 0, .int .i64 0, .bool false, .bool false, .int .i64 0, .int .i64 0, .int .i64 0, .int .i64 0, .int .i64 0, .slice none 0 0, .slice none 0 0], .int .i64 1]) (by simp [results, Tryd.results33, go_sem, r0, r1, r2, r3, r4, r5, r6, r7, r8, r9, r10]) rfl ⟨rfl, (below_11n HT.out.1.1 (Nat.le_succ _))⟩
set_option maxHeartbeats 4000000 in
theorem specCom_kind (x0 x1 : Int) (x2 x3 : Bool) (x4 x5 x6 x7 x8 : Int) (a0 : Option Addr) (n0 c0 : Nat) (a1 : Option Addr) (n1 c1 : Nat) (from_ kind_ code_ rest_ : Int) (M : Bool) (w : World) (hM : M = true) (h1 : adrB from_ = true) (h2 : ¬ kind_ = 3) (h3 : ¬ kind_ = 11)
   (cM : ∀ W, Below w.heap.size w W → Calls Tryd.prog 71 #[.agg #[.int .i64 x0, .int .i64 x1, .bool x2, .bool x3, .int .i64 x4, .int .i64 x5, .int .i64 x6, .int .i64 x7, .int .i64 x8, .slice a0 n0 c0, .slice a1 n1 c1]] W fun e w' => e = .returned (.bool M) ∧ Below W.heap.size W w') :
    Calls Tryd.prog 33 #[.agg #[.int .i64 x0, .int .i64 x1, .bool x2, .bool x3, .int .i64 x4, .int .i64 x5, .int .i64 x6, .int .i64 x7, .int .i64 x8, .slice a0 n0 c0, .slice a1 n1 c1], .int .i64 from_, .int .i64 kind_, .int .i64 code_, .int .i64 rest_] w fun e w' => e = .returned (.tuple #[.agg #[.int .i64 0, .int .i64 0, .bool false, .bool false, .int .i64 0, .int .i64 0, .int .i64 0, .int .i64 0, .int .i64 0, .slice none 0 0, .slice none 0 0], .int .i64 1]) ∧ Below w.heap.size w w' := by
  have HT := hide (TwoB.start w (.cells #[.int .i64 x0, .int .i64 x1, .bool x2, .bool x3, .int .i64 x4, .int .i64 x5, .int .i64 x6, .int .i64 x7, .int .i64 x8, .slice a0 n0 c0, .slice a1 n1 c1] 47) (.cells #[.int .i64 0, .int .i64 0, .bool false, .bool false, .int .i64 0, .int .i64 0, .int .i64 0, .int .i64 0, .int .i64 0, .slice none 0 0, .slice none 0 0] 47))
  have CM := hide cM
  clear cM
  subst hM
  have p0 : ((w.alloc (.cells #[.int .i64 x0, .int .i64 x1, .bool x2, .bool x3, .int .i64 x4, .int .i64 x5, .int .i64 x6, .int .i64 x7, .int .i64 x8, .slice a0 n0 c0, .slice a1 n1 c1] 47)).alloc (.cells #[.int .i64 0, .int .i64 0, .bool false, .bool false, .int .i64 0, .int .i64 0, .int .i64 0, .int .i64 0, .int .i64 0, .slice none 0 0, .slice none 0 0] 47)).cell? ⟨w.heap.size, 0, none⟩ = some (.int .i64 x0) := cell_of_row _ _ 0 _ _ _ HT.out.2.1
  have p1 : ((w.alloc (.cells #[.int .i64 x0, .int .i64 x1, .bool x2, .bool x3, .int .i64 x4, .int .i64 x5, .int .i64 x6, .int .i64 x7, .int .i64 x8, .slice a0 n0 c0, .slice a1 n1 c1] 47)).alloc (.cells #[.int .i64 0, .int .i64 0, .bool false, .bool false, .int .i64 0, .int .i64 0, .int .i64 0, .int .i64 0, .int .i64 0, .slice none 0 0, .slice none 0 0] 47)).cell? ⟨w.heap.size, 1, none⟩ = some (.int .i64 x1) := cell_of_row _ _ 1 _ _ _ HT.out.2.1
  have p2 : ((w.alloc (.cells #[.int .i64 x0, .int .i64 x1, .bool x2, .bool x3, .int .i64 x4, .int .i64 x5, .int .i64 x6, .int .i64 x7, .int .i64 x8, .slice a0 n0 c0, .slice a1 n1 c1] 47)).alloc (.cells #[.int .i64 0, .int .i64 0, .bool false, .bool false, .int .i64 0, .int .i64 0, .int .i64 0, .int .i64 0, .int .i64 0, .slice none 0 0, .slice none 0 0] 47)).cell? ⟨w.heap.size, 2, none⟩ = some (.bool x2) := cell_of_row _ _ 2 _ _ _ HT.out.2.1
  have p3 : ((w.alloc (.cells #[.int .i64 x0, .int .i64 x1, .bool x2, .bool x3, .int .i64 x4, .int .i64 x5, .int .i64 x6, .int .i64 x7, .int .i64 x8, .slice a0 n0 c0, .slice a1 n1 c1] 47)).alloc (.cells #[.int .i64 0, .int .i64 0, .bool false, .bool false, .int .i64 0, .int .i64 0, .int .i64 0, .int .i64 0, .int .i64 0, .slice none 0 0, .slice none 0 0] 47)).cell? ⟨w.heap.size, 3, none⟩ = some (.bool x3) := cell_of_row _ _ 3 _ _ _ HT.out.2.1
  have p4 : ((w.alloc (.cells #[.int .i64 x0, .int .i64 x1, .bool x2, .bool x3, .int .i64 x4, .int .i64 x5, .int .i64 x6, .int .i64 x7, .int .i64 x8, .slice a0 n0 c0, .slice a1 n1 c1] 47)).alloc (.cells #[.int .i64 0, .int .i64 0, .bool false, .bool false, .int .i64 0, .int .i64 0, .int .i64 0, .int .i64 0, .int .i64 0, .slice none 0 0, .slice none 0 0] 47)).cell? ⟨w.heap.size, 4, none⟩ = some (.int .i64 x4) := cell_of_row _ _ 4 _ _ _ HT.out.2.1
  have p5 : ((w.alloc (.cells #[.int .i64 x0, .int .i64 x1, .bool x2, .bool x3, .int .i64 x4, .int .i64 x5, .int .i64 x6, .int .i64 x7, .int .i64 x8, .slice a0 n0 c0, .slice a1 n1 c1] 47)).alloc (.cells #[.int .i64 0, .int .i64 0, .bool false, .bool false, .int .i64 0, .int .i64 0, .int .i64 0, .int .i64 0, .int .i64 0, .slice none 0 0, .slice none 0 0] 47)).cell? ⟨w.heap.size, 5, none⟩ = some (.int .i64 x5) := cell_of_row _ _ 5 _ _ _ HT.out.2.1
  have p6 : ((w.alloc (.cells #[.int .i64 x0, .int .i64 x1, .bool x2, .bool x3, .int .i64 x4, .int .i64 x5, .int .i64 x6, .int .i64 x7, .int .i64 x8, .slice a0 n0 c0, .slice a1 n1 c1] 47)).alloc (.cells #[.int .i64 0, .int .i64 0, .bool false, .bool false, .int .i64 0, .int .i64 0, .int .i64 0, .int .i64 0, .int .i64 0, .slice none 0 0, .slice none 0 0] 47)).cell? ⟨w.heap.size, 6, none⟩ = some (.int .i64 x6) := cell_of_row _ _ 6 _ _ _ HT.out.2.1
  have p7 : ((w.alloc (.cells #[.int .i64 x0, .int .i64 x1, .bool x2, .bool x3, .int .i64 x4, .int .i64 x5, .int .i64 x6, .int .i64 x7, .int .i64 x8, .slice a0 n0 c0, .slice a1 n1 c1] 47)).alloc (.cells #[.int .i64 0, .int .i64 0, .bool false, .bool false, .int .i64 0, .int .i64 0, .int .i64 0, .int .i64 0, .int .i64 0, .slice none 0 0, .slice none 0 0] 47)).cell? ⟨w.heap.size, 7, none⟩ = some (.int .i64 x7) := cell_of_row _ _ 7 _ _ _ HT.out.2.1
  have p8 : ((w.alloc (.cells #[.int .i64 x0, .int .i64 x1, .bool x2, .bool x3, .int .i64 x4, .int .i64 x5, .int .i64 x6, .int .i64 x7, .int .i64 x8, .slice a0 n0 c0, .slice a1 n1 c1] 47)).alloc (.cells #[.int .i64 0, .int .i64 0, .bool false, .bool false, .int .i64 0, .int .i64 0, .int .i64 0, .int .i64 0, .int .i64 0, .slice none 0 0, .slice none 0 0] 47)).cell? ⟨w.heap.size, 8, none⟩ = some (.int .i64 x8) := cell_of_row _ _ 8 _ _ _ HT.out.2.1
  have p9 : ((w.alloc (.cells #[.int .i64 x0, .int .i64 x1, .bool x2, .bool x3, .int .i64 x4, .int .i64 x5, .int .i64 x6, .int .i64 x7, .int .i64 x8, .slice a0 n0 c0, .slice a1 n1 c1] 47)).alloc (.cells #[.int .i64 0, .int .i64 0, .bool false, .bool false, .int .i64 0, .int .i64 0, .int .i64 0, .int .i64 0, .int .i64 0, .slice none 0 0, .slice none 0 0] 47)).cell? ⟨w.heap.size, 9, none⟩ = some (.slice a0 n0 c0) := cell_of_row _ _ 9 _ _ _ HT.out.2.1
  have p10 : ((w.alloc (.cells #[.int .i64 x0, .int .i64 x1, .bool x2, .bool x3, .int .i64 x4, .int .i64 x5, .int .i64 x6, .int .i64 x7, .int .i64 x8, .slice a0 n0 c0, .slice a1 n1 c1] 47)).alloc (.cells #[.int .i64 0, .int .i64 0, .bool false, .bool false, .int .i64 0, .int .i64 0, .int .i64 0, .int .i64 0, .int .i64 0, .slice none 0 0, .slice none 0 0] 47)).cell? ⟨w.heap.size, 10, none⟩ = some (.slice a1 n1 c1) := cell_of_row _ _ 10 _ _ _ HT.out.2.1
  go_enter Tryd.func33, Tryd.ntmps33
  go_wp2_with fail
  generalize (w.alloc (.cells #[.int .i64 x0, .int .i64 x1, .bool x2, .bool x3, .int .i64 x4, .int .i64 x5, .int .i64 x6, .int .i64 x7, .int .i64 x8, .slice a0 n0 c0, .slice a1 n1 c1] 47)).alloc (.cells #[.int .i64 0, .int .i64 0, .bool false, .bool false, .int .i64 0, .int .i64 0, .int .i64 0, .int .i64 0, .int .i64 0, .slice none 0 0, .slice none 0 0] 47) = W0 at *
  clear p0 p1 p2 p3 p4 p5 p6 p7 p8 p9 p10
  refine (CM.out _ HT.out.1.1).mono ?_
  rintro e w1 ⟨rfl, hb⟩
  replace HT := hide (HT.out.next hb)
  clear hb
  have r0 : (w1).cell? ⟨w.heap.size + 1, 0, none⟩ = some (.int .i64 0) := cell_of_row _ _ 0 _ _ _ HT.out.2.2
  have r1 : (w1).cell? ⟨w.heap.size + 1, 1, none⟩ = some (.int .i64 0) := cell_of_row _ _ 1 _ _ _ HT.out.2.2
  have r2 : (w1).cell? ⟨w.heap.size + 1, 2, none⟩ = some (.bool false) := cell_of_row _ _ 2 _ _ _ HT.out.2.2
  have r3 : (w1).cell? ⟨w.heap.size + 1, 3, none⟩ = some (.bool false) := cell_of_row _ _ 3 _ _ _ HT.out.2.2
  have r4 : (w1).cell? ⟨w.heap.size + 1, 4, none⟩ = some (.int .i64 0) := cell_of_row _ _ 4 _ _ _ HT.out.2.2
  have r5 : (w1).cell? ⟨w.heap.size + 1, 5, none⟩ = some (.int .i64 0) := cell_of_row _ _ 5 _ _ _ HT.out.2.2
  have r6 : (w1).cell? ⟨w.heap.size + 1, 6, none⟩ = some (.int .i64 0) := cell_of_row _ _ 6 _ _ _ HT.out.2.2
  have r7 : (w1).cell? ⟨w.heap.size + 1, 7, none⟩ = some (.int .i64 0) := cell_of_row _ _ 7 _ _ _ HT.out.2.2
  have r8 : (w1).cell? ⟨w.heap.size + 1, 8, none⟩ = some (.int .i64 0) := cell_of_row _ _ 8 _ _ _ HT.out.2.2
  have r9 : (w1).cell? ⟨w.heap.size + 1, 9, none⟩ = some (.slice none 0 0) := cell_of_row _ _ 9 _ _ _ HT.out.2.2
  have r10 : (w1).cell? ⟨w.heap.size + 1, 10, none⟩ = some (.slice none 0 0) := cell_of_row _ _ 10 _ _ _ HT.out.2.2
  have rf : ∀ q, w1.frozen? ⟨w.heap.size + 1, q, none⟩ = false := fun q => frozen_of_row _ _ q _ _ HT.out.2.2
  go_wp2_with (first | (go_at_call 46; refine (specAddrOK_walk _ _).mono ?_; rintro e w' ⟨rfl, rfl⟩) | (go_at_call 37; refine (In_walk _ _ _ _).mono ?_; rintro e w' ⟨rfl, rfl⟩))
  exact bodyPost_ret (v := .tuple #[.agg #[.int .i64 0, .int .i64 0, .bool false, .bool false, .int .i64 0, .int .i64 0, .int .i64 0, .int .i64 0, .int .i64 0, .slice none 0 0, .slice none 0 0], .int .i64 1]) (by simp [results, Tryd.results33, go_sem, r0, r1, r2, r3, r4, r5, r6, r7, r8, r9, r10]) rfl ⟨rfl, (below_11n HT.out.1.1 (Nat.le_succ _))⟩
set_option maxHeartbeats 4000000 in
theorem specCom_code3 (x0 x1 : Int) (x2 x3 : Bool) (x4 x5 x6 x7 x8 : Int) (a0 : Option Addr) (n0 c0 : Nat) (a1 : Option Addr) (n1 c1 : Nat) (from_ kind_ code_ rest_ : Int) (M : Bool) (w : World) (hM : M = true) (h1 : adrB from_ = true) (h3 : inB code_ 0 255 = false) (hk : kind_ = 3)
   (cM : ∀ W, Below w.heap.size w W → Calls Tryd.prog 71 #[.agg #[.int .i64 x0, .int .i64 x1, .bool x2, .bool x3, .int .i64 x4, .int .i64 x5, .int .i64 x6, .int .i64 x7, .int .i64 x8, .slice a0 n0 c0, .slice a1 n1 c1]] W fun e w' => e = .returned (.bool M) ∧ Below W.heap.size W w') :
    Calls Tryd.prog 33 #[.agg #[.int .i64 x0, .int .i64 x1, .bool x2, .bool x3, .int .i64 x4, .int .i64 x5, .int .i64 x6, .int .i64 x7, .int .i64 x8, .slice a0 n0 c0, .slice a1 n1 c1], .int .i64 from_, .int .i64 kind_, .int .i64 code_, .int .i64 rest_] w fun e w' => e = .returned (.tuple #[.agg #[.int .i64 0, .int .i64 0, .bool false, .bool false, .int .i64 0, .int .i64 0, .int .i64 0, .int .i64 0, .int .i64 0, .slice none 0 0, .slice none 0 0], .int .i64 1]) ∧ Below w.heap.size w w' := by
  have HT := hide (TwoB.start w (.cells #[.int .i64 x0, .int .i64 x1, .bool x2, .bool x3, .int .i64 x4, .int .i64 x5, .int .i64 x6, .int .i64 x7, .int .i64 x8, .slice a0 n0 c0, .slice a1 n1 c1] 47) (.cells #[.int .i64 0, .int .i64 0, .bool false, .bool false, .int .i64 0, .int .i64 0, .int .i64 0, .int .i64 0, .int .i64 0, .slice none 0 0, .slice none 0 0] 47))
  have CM := hide cM
  clear cM
  subst hM hk
  have p0 : ((w.alloc (.cells #[.int .i64 x0, .int .i64 x1, .bool x2, .bool x3, .int .i64 x4, .int .i64 x5, .int .i64 x6, .int .i64 x7, .int .i64 x8, .slice a0 n0 c0, .slice a1 n1 c1] 47)).alloc (.cells #[.int .i64 0, .int .i64 0, .bool false, .bool false, .int .i64 0, .int .i64 0, .int .i64 0, .int .i64 0, .int .i64 0, .slice none 0 0, .slice none 0 0] 47)).cell? ⟨w.heap.size, 0, none⟩ = some (.int .i64 x0) := cell_of_row _ _ 0 _ _ _ HT.out.2.1
  have p1 : ((w.alloc (.cells #[.int .i64 x0, .int .i64 x1, .bool x2, .bool x3, .int .i64 x4, .int .i64 x5, .int .i64 x6, .int .i64 x7, .int .i64 x8, .slice a0 n0 c0, .slice a1 n1 c1] 47)).alloc (.cells #[.int .i64 0, .int .i64 0, .bool false, .bool false, .int .i64 0, .int .i64 0, .int .i64 0, .int .i64 0, .int .i64 0, .slice none 0 0, .slice none 0 0] 47)).cell? ⟨w.heap.size, 1, none⟩ = some (.int .i64 x1) := cell_of_row _ _ 1 _ _ _ HT.out.2.1
  have p2 : ((w.alloc (.cells #[.int .i64 x0, .int .i64 x1, .bool x2, .bool x3, .int .i64 x4, .int .i64 x5, .int .i64 x6, .int .i64 x7, .int .i64 x8, .slice a0 n0 c0, .slice a1 n1 c1] 47)).alloc (.cells #[.int .i64 0, .int .i64 0, .bool false, .bool false, .int .i64 0, .int .i64 0, .int .i64 0, .int .i64 0, .int .i64 0, .slice none 0 0, .slice none 0 0] 47)).cell? ⟨w.heap.size, 2, none⟩ = some (.bool x2) := cell_of_row _ _ 2 _ _ _ HT.out.2.1
  have p3 : ((w.alloc (.cells #[.int .i64 x0, .int .i64 x1, .bool x2, .bool x3, .int .i64 x4, .int .i64 x5, .int .i64 x6, .int .i64 x7, .int .i64 x8, .slice a0 n0 c0, .slice a1 n1 c1] 47)).alloc (.cells #[.int .i64 0, .int .i64 0, .bool false, .bool false, .int .i64 0, .int .i64 0, .int .i64 0, .int .i64 0, .int .i64 0, .slice none 0 0, .slice none 0 0] 47)).cell? ⟨w.heap.size, 3, none⟩ = some (.bool x3) := cell_of_row _ _ 3 _ _ _ HT.out.2.1
  have p4 : ((w.alloc (.cells #[.int .i64 x0, .int .i64 x1, .bool x2, .bool x3, .int .i64 x4, .int .i64 x5, .int .i64 x6, .int .i64 x7, .int .i64 x8, .slice a0 n0 c0, .slice a1 n1 c1] 47)).alloc (.cells #[.int .i64 0, .int .i64 0, .bool false, .bool false, .int .i64 0, .int .i64 0, .int .i64 0, .int .i64 0, .int .i64 0, .slice none 0 0, .slice none 0 0] 47)).cell? ⟨w.heap.size, 4, none⟩ = some (.int .i64 x4) := cell_of_row _ _ 4 _ _ _ HT.out.2.1
  have p5 : ((w.alloc (.cells #[.int .i64 x0, .int .i64 x1, .bool x2, .bool x3, .int .i64 x4, .int .i64 x5, .int .i64 x6, .int .i64 x7, .int .i64 x8, .slice a0 n0 c0, .slice a1 n1 c1] 47)).alloc (.cells #[.int .i64 0, .int .i64 0, .bool false, .bool false, .int .i64 0, .int .i64 0, .int .i64 0, .int .i64 0, .int .i64 0, .slice none 0 0, .slice none 0 0] 47)).cell? ⟨w.heap.size, 5, none⟩ = some (.int .i64 x5) := cell_of_row _ _ 5 _ _ _ HT.out.2.1
  have p6 : ((w.alloc (.cells #[.int .i64 x0, .int .i64 x1, .bool x2, .bool x3, .int .i64 x4, .int .i64 x5, .int .i64 x6, .int .i64 x7, .int .i64 x8, .slice a0 n0 c0, .slice a1 n1 c1] 47)).alloc (.cells #[.int .i64 0, .int .i64 0, .bool false, .bool false, .int .i64 0, .int .i64 0, .int .i64 0, .int .i64 0, .int .i64 0, .slice none 0 0, .slice none 0 0] 47)).cell? ⟨w.heap.size, 6, none⟩ = some (.int .i64 x6) := cell_of_row _ _ 6 _ _ _ HT.out.2.1
  have p7 : ((w.alloc (.cells #[.int .i64 x0, .int .i64 x1, .bool x2, .bool x3, .int .i64 x4, .int .i64 x5, .int .i64 x6, .int .i64 x7, .int .i64 x8, .slice a0 n0 c0, .slice a1 n1 c1] 47)).alloc (.cells #[.int .i64 0, .int .i64 0, .bool false, .bool false, .int .i64 0, .int .i64 0, .int .i64 0, .int .i64 0, .int .i64 0, .slice none 0 0, .slice none 0 0] 47)).cell? ⟨w.heap.size, 7, none⟩ = some (.int .i64 x7) := cell_of_row _ _ 7 _ _ _ HT.out.2.1
  have p8 : ((w.alloc (.cells #[.int .i64 x0, .int .i64 x1, .bool x2, .bool x3, .int .i64 x4, .int .i64 x5, .int .i64 x6, .int .i64 x7, .int .i64 x8, .slice a0 n0 c0, .slice a1 n1 c1] 47)).alloc (.cells #[.int .i64 0, .int .i64 0, .bool false, .bool false, .int .i64 0, .int .i64 0, .int .i64 0, .int .i64 0, .int .i64 0, .slice none 0 0, .slice none 0 0] 47)).cell? ⟨w.heap.size, 8, none⟩ = some (.int .i64 x8) := cell_of_row _ _ 8 _ _ _ HT.out.2.1
  have p9 : ((w.alloc (.cells #[.int .i64 x0, .int .i64 x1, .bool x2, .bool x3, .int .i64 x4, .int .i64 x5, .int .i64 x6, .int .i64 x7, .int .i64 x8, .slice a0 n0 c0, .slice a1 n1 c1] 47)).alloc (.cells #[.int .i64 0, .int .i64 0, .bool false, .bool false, .int .i64 0, .int .i64 0, .int .i64 0, .int .i64 0, .int .i64 0, .slice none 0 0, .slice none 0 0] 47)).cell? ⟨w.heap.size, 9, none⟩ = some (.slice a0 n0 c0) := cell_of_row _ _ 9 _ _ _ HT.out.2.1
  have p10 : ((w.alloc (.cells #[.int .i64 x0, .int .i64 x1, .bool x2, .bool x3, .int .i64 x4, .int .i64 x5, .int .i64 x6, .int .i64 x7, .int .i64 x8, .slice a0 n0 c0, .slice a1 n1 c1] 47)).alloc (.cells #[.int .i64 0, .int .i64 0, .bool false, .bool false, .int .i64 0, .int .i64 0, .int .i64 0, .int .i64 0, .int .i64 0, .slice none 0 0, .slice none 0 0] 47)).cell? ⟨w.heap.size, 10, none⟩ = some (.slice a1 n1 c1) := cell_of_row _ _ 10 _ _ _ HT.out.2.1
  go_enter Tryd.func33, Tryd.ntmps33
  go_wp2_with fail
  generalize (w.alloc (.cells #[.int .i64 x0, .int .i64 x1, .bool x2, .bool x3, .int .i64 x4, .int .i64 x5, .int .i64 x6, .int .i64 x7, .int .i64 x8, .slice a0 n0 c0, .slice a1 n1 c1] 47)).alloc (.cells #[.int .i64 0, .int .i64 0, .bool false, .bool false, .int .i64 0, .int .i64 0, .int .i64 0, .int .i64 0, .int .i64 0, .slice none 0 0, .slice none 0 0] 47) = W0 at *
  clear p0 p1 p2 p3 p4 p5 p6 p7 p8 p9 p10
  refine (CM.out _ HT.out.1.1).mono ?_
  rintro e w1 ⟨rfl, hb⟩
  replace HT := hide (HT.out.next hb)
  clear hb
  have r0 : (w1).cell? ⟨w.heap.size + 1, 0, none⟩ = some (.int .i64 0) := cell_of_row _ _ 0 _ _ _ HT.out.2.2
  have r1 : (w1).cell? ⟨w.heap.size + 1, 1, none⟩ = some (.int .i64 0) := cell_of_row _ _ 1 _ _ _ HT.out.2.2
  have r2 : (w1).cell? ⟨w.heap.size + 1, 2, none⟩ = some (.bool false) := cell_of_row _ _ 2 _ _ _ HT.out.2.2
  have r3 : (w1).cell? ⟨w.heap.size + 1, 3, none⟩ = some (.bool false) := cell_of_row _ _ 3 _ _ _ HT.out.2.2
  have r4 : (w1).cell? ⟨w.heap.size + 1, 4, none⟩ = some (.int .i64 0) := cell_of_row _ _ 4 _ _ _ HT.out.2.2
  have r5 : (w1).cell? ⟨w.heap.size + 1, 5, none⟩ = some (.int .i64 0) := cell_of_row _ _ 5 _ _ _ HT.out.2.2
  have r6 : (w1).cell? ⟨w.heap.size + 1, 6, none⟩ = some (.int .i64 0) := cell_of_row _ _ 6 _ _ _ HT.out.2.2
  have r7 : (w1).cell? ⟨w.heap.size + 1, 7, none⟩ = some (.int .i64 0) := cell_of_row _ _ 7 _ _ _ HT.out.2.2
  have r8 : (w1).cell? ⟨w.heap.size + 1, 8, none⟩ = some (.int .i64 0) := cell_of_row _ _ 8 _ _ _ HT.out.2.2
  have r9 : (w1).cell? ⟨w.heap.size + 1, 9, none⟩ = some (.slice none 0 0) := cell_of_row _ _ 9 _ _ _ HT.out.2.2
  have r10 : (w1).cell? ⟨w.heap.size + 1, 10, none⟩ = some (.slice none 0 0) := cell_of_row _ _ 10 _ _ _ HT.out.2.2
  have rf : ∀ q, w1.frozen? ⟨w.heap.size + 1, q, none⟩ = false := fun q => frozen_of_row _ _ q _ _ HT.out.2.2
  go_wp2_with (first | (go_at_call 46; refine (specAddrOK_walk _ _).mono ?_; rintro e w' ⟨rfl, rfl⟩) | (go_at_call 37; refine (In_walk _ _ _ _).mono ?_; rintro e w' ⟨rfl, rfl⟩))
  exact bodyPost_ret (v := .tuple #[.agg #[.int .i64 0, .int .i64 0, .bool false, .bool false, .int .i64 0, .int .i64 0, .int .i64 0, .int .i64 0, .int .i64 0, .slice none 0 0, .slice none 0 0], .int .i64 1]) (by simp [results, Tryd.results33, go_sem, r0, r1, r2, r3, r4, r5, r6, r7, r8, r9, r10]) rfl ⟨rfl, (below_11n HT.out.1.1 (Nat.le_succ _))⟩
set_option maxHeartbeats 4000000 in
theorem specCom_code11 (x0 x1 : Int) (x2 x3 : Bool) (x4 x5 x6 x7 x8 : Int) (a0 : Option Addr) (n0 c0 : Nat) (a1 : Option Addr) (n1 c1 : Nat) (from_ kind_ code_ rest_ : Int) (M : Bool) (w : World) (hM : M = true) (h1 : adrB from_ = true) (h3 : inB code_ 0 255 = false) (hk : kind_ = 11)
   (cM : ∀ W, Below w.heap.size w W → Calls Tryd.prog 71 #[.agg #[.int .i64 x0, .int .i64 x1, .bool x2, .bool x3, .int .i64 x4, .int .i64 x5, .int .i64 x6, .int .i64 x7, .int .i64 x8, .slice a0 n0 c0, .slice a1 n1 c1]] W fun e w' => e = .returned (.bool M) ∧ Below W.heap.size W w') :
    Calls Tryd.prog 33 #[.agg #[.int .i64 x0, .int .i64 x1, .bool x2, .bool x3, .int .i64 x4, .int .i64 x5, .int .i64 x6, .int .i64 x7, .int .i64 x8, .slice a0 n0 c0, .slice a1 n1 c1], .int .i64 from_, .int .i64 kind_, .int .i64 code_, .int .i64 rest_] w fun e w' => e = .returned (.tuple #[.agg #[.int .i64 0, .int .i64 0, .bool false, .bool false, .int .i64 0, .int .i64 0, .int .i64 0, .int .i64 0, .int .i64 0, .slice none 0 0, .slice none 0 0], .int .i64 1]) ∧ Below w.heap.size w w' := by
  have HT := hide (TwoB.start w (.cells #[.int .i64 x0, .int .i64 x1, .bool x2, .bool x3, .int .i64 x4, .int .i64 x5, .int .i64 x6, .int .i64 x7, .int .i64 x8, .slice a0 n0 c0, .slice a1 n1 c1] 47) (.cells #[.int .i64 0, .int .i64 0, .bool false, .bool false, .int .i64 0, .int .i64 0, .int .i64 0, .int .i64 0, .int .i64 0, .slice none 0 0, .slice none 0 0] 47))
  have CM := hide cM
  clear cM
  subst hM hk
  have p0 : ((w.alloc (.cells #[.int .i64 x0, .int .i64 x1, .bool x2, .bool x3, .int .i64 x4, .int .i64 x5, .int .i64 x6, .int .i64 x7, .int .i64 x8, .slice a0 n0 c0, .slice a1 n1 c1] 47)).alloc (.cells #[.int .i64 0, .int .i64 0, .bool false, .bool false, .int .i64 0, .int .i64 0, .int .i64 0, .int .i64 0, .int .i64 0, .slice none 0 0, .slice none 0 0] 47)).cell? ⟨w.heap.size, 0, none⟩ = some (.int .i64 x0) := cell_of_row _ _ 0 _ _ _ HT.out.2.1
  have p1 : ((w.alloc (.cells #[.int .i64 x0, .int .i64 x1, .bool x2, .bool x3, .int .i64 x4, .int .i64 x5, .int .i64 x6, .int .i64 x7, .int .i64 x8, .slice a0 n0 c0, .slice a1 n1 c1] 47)).alloc (.cells #[.int .i64 0, .int .i64 0, .bool false, .bool false, .int .i64 0, .int .i64 0, .int .i64 0, .int .i64 0, .int .i64 0, .slice none 0 0, .slice none 0 0] 47)).cell? ⟨w.heap.size, 1, none⟩ = some (.int .i64 x1) := cell_of_row _ _ 1 _ _ _ HT.out.2.1
  have p2 : ((w.alloc (.cells #[.int .i64 x0, .int .i64 x1, .bool x2, .bool x3, .int .i64 x4, .int .i64 x5, .int .i64 x6, .int .i64 x7, .int .i64 x8, .slice a0 n0 c0, .slice a1 n1 c1] 47)).alloc (.cells #[.int .i64 0, .int .i64 0, .bool false, .bool false, .int .i64 0, .int .i64 0, .int .i64 0, .int .i64 0, .int .i64 0, .slice none 0 0, .slice none 0 0] 47)).cell? ⟨w.heap.size, 2, none⟩ = some (.bool x2) := cell_of_row _ _ 2 _ _ _ HT.out.2.1
  have p3 : ((w.alloc (.cells #[.int .i64 x0, .int .i64 x1, .bool x2, .bool x3, .int .i64 x4, .int .i64 x5, .int .i64 x6, .int .i64 x7, .int .i64 x8, .slice a0 n0 c0, .slice a1 n1 c1] 47)).alloc (.cells #[.int .i64 0, .int .i64 0, .bool false, .bool false, .int .i64 0, .int .i64 0, .int .i64 0, .int .i64 0, .int .i64 0, .slice none 0 0, .slice none 0 0] 47)).cell? ⟨w.heap.size, 3, none⟩ = some (.bool x3) := cell_of_row _ _ 3 _ _ _ HT.out.2.1
  have p4 : ((w.alloc (.cells #[.int .i64 x0, .int .i64 x1, .bool x2, .bool x3, .int .i64 x4, .int .i64 x5, .int .i64 x6, .int .i64 x7, .int .i64 x8, .slice a0 n0 c0, .slice a1 n1 c1] 47)).alloc (.cells #[.int .i64 0, .int .i64 0, .bool false, .bool false, .int .i64 0, .int .i64 0, .int .i64 0, .int .i64 0, .int .i64 0, .slice none 0 0, .slice none 0 0] 47)).cell? ⟨w.heap.size, 4, none⟩ = some (.int .i64 x4) := cell_of_row _ _ 4 _ _ _ HT.out.2.1
  have p5 : ((w.alloc (.cells #[.int .i64 x0, .int .i64 x1, .bool x2, .bool x3, .int .i64 x4, .int .i64 x5, .int .i64 x6, .int .i64 x7, .int .i64 x8, .slice a0 n0 c0, .slice a1 n1 c1] 47)).alloc (.cells #[.int .i64 0, .int .i64 0, .bool false, .bool false, .int .i64 0, .int .i64 0, .int .i64 0, .int .i64 0, .int .i64 0, .slice none 0 0, .slice none 0 0] 47)).cell? ⟨w.heap.size, 5, none⟩ = some (.int .i64 x5) := cell_of_row _ _ 5 _ _ _ HT.out.2.1
  have p6 : ((w.alloc (.cells #[.int .i64 x0, .int .i64 x1, .bool x2, .bool x3, .int .i64 x4, .int .i64 x5, .int .i64 x6, .int .i64 x7, .int .i64 x8, .slice a0 n0 c0, .slice a1 n1 c1] 47)).alloc (.cells #[.int .i64 0, .int .i64 0, .bool false, .bool false, .int .i64 0, .int .i64 0, .int .i64 0, .int .i64 0, .int .i64 0, .slice none 0 0, .slice none 0 0] 47)).cell? ⟨w.heap.size, 6, none⟩ = some (.int .i64 x6) := cell_of_row _ _ 6 _ _ _ HT.out.2.1
  have p7 : ((w.alloc (.cells #[.int .i64 x0, .int .i64 x1, .bool x2, .bool x3, .int .i64 x4, .int .i64 x5, .int .i64 x6, .int .i64 x7, .int .i64 x8, .slice a0 n0 c0, .slice a1 n1 c1] 47)).alloc (.cells #[.int .i64 0, .int .i64 0, .bool false, .bool false, .int .i64 0, .int .i64 0, .int .i64 0, .int .i64 0, .int .i64 0, .slice none 0 0, .slice none 0 0] 47)).cell? ⟨w.heap.size, 7, none⟩ = some (.int .i64 x7) := cell_of_row _ _ 7 _ _ _ HT.out.2.1
  have p8 : ((w.alloc (.cells #[.int .i64 x0, .int .i64 x1, .bool x2, .bool x3, .int .i64 x4, .int .i64 x5, .int .i64 x6, .int .i64 x7, .int .i64 x8, .slice a0 n0 c0, .slice a1 n1 c1] 47)).alloc (.cells #[.int .i64 0, .int .i64 0, .bool false, .bool false, .int .i64 0, .int .i64 0, .int .i64 0, .int .i64 0, .int .i64 0, .slice none 0 0, .slice none 0 0] 47)).cell? ⟨w.heap.size, 8, none⟩ = some (.int .i64 x8) := cell_of_row _ _ 8 _ _ _ HT.out.2.1
  have p9 : ((w.alloc (.cells #[.int .i64 x0, .int .i64 x1, .bool x2, .bool x3, .int .i64 x4, .int .i64 x5, .int .i64 x6, .int .i64 x7, .int .i64 x8, .slice a0 n0 c0, .slice a1 n1 c1] 47)).alloc (.cells #[.int .i64 0, .int .i64 0, .bool false, .bool false, .int .i64 0, .int .i64 0, .int .i64 0, .int .i64 0, .int .i64 0, .slice none 0 0, .slice none 0 0] 47)).cell? ⟨w.heap.size, 9, none⟩ = some (.slice a0 n0 c0) := cell_of_row _ _ 9 _ _ _ HT.out.2.1
  have p10 : ((w.alloc (.cells #[.int .i64 x0, .int .i64 x1, .bool x2, .bool x3, .int .i64 x4, .int .i64 x5, .int .i64 x6, .int .i64 x7, .int .i64 x8, .slice a0 n0 c0, .slice a1 n1 c1] 47)).alloc (.cells #[.int .i64 0, .int .i64 0, .bool false, .bool false, .int .i64 0, .int .i64 0, .int .i64 0, .int .i64 0, .int .i64 0, .slice none 0 0, .slice none 0 0] 47)).cell? ⟨w.heap.size, 10, none⟩ = some (.slice a1 n1 c1) := cell_of_row _ _ 10 _ _ _ HT.out.2.1
  go_enter Tryd.func33, Tryd.ntmps33
  go_wp2_with fail
  generalize (w.alloc (.cells #[.int .i64 x0, .int .i64 x1, .bool x2, .bool x3, .int .i64 x4, .int .i64 x5, .int .i64 x6, .int .i64 x7, .int .i64 x8, .slice a0 n0 c0, .slice a1 n1 c1] 47)).alloc (.cells #[.int .i64 0, .int .i64 0, .bool false, .bool false, .int .i64 0, .int .i64 0, .int .i64 0, .int .i64 0, .int .i64 0, .slice none 0 0, .slice none 0 0] 47) = W0 at *
  clear p0 p1 p2 p3 p4 p5 p6 p7 p8 p9 p10
  refine (CM.out _ HT.out.1.1).mono ?_
  rintro e w1 ⟨rfl, hb⟩
  replace HT := hide (HT.out.next hb)
  clear hb
  have r0 : (w1).cell? ⟨w.heap.size + 1, 0, none⟩ = some (.int .i64 0) := cell_of_row _ _ 0 _ _ _ HT.out.2.2
  have r1 : (w1).cell? ⟨w.heap.size + 1, 1, none⟩ = some (.int .i64 0) := cell_of_row _ _ 1 _ _ _ HT.out.2.2
  have r2 : (w1).cell? ⟨w.heap.size + 1, 2, none⟩ = some (.bool false) := cell_of_row _ _ 2 _ _ _ HT.out.2.2
  have r3 : (w1).cell? ⟨w.heap.size + 1, 3, none⟩ = some (.bool false) := cell_of_row _ _ 3 _ _ _ HT.out.2.2
  have r4 : (w1).cell? ⟨w.heap.size + 1, 4, none⟩ = some (.int .i64 0) := cell_of_row _ _ 4 _ _ _ HT.out.2.2
  have r5 : (w1).cell? ⟨w.heap.size + 1, 5, none⟩ = some (.int .i64 0) := cell_of_row _ _ 5 _ _ _ HT.out.2.2
  have r6 : (w1).cell? ⟨w.heap.size + 1, 6, none⟩ = some (.int .i64 0) := cell_of_row _ _ 6 _ _ _ HT.out.2.2
  have r7 : (w1).cell? ⟨w.heap.size + 1, 7, none⟩ = some (.int .i64 0) := cell_of_row _ _ 7 _ _ _ HT.out.2.2
  have r8 : (w1).cell? ⟨w.heap.size + 1, 8, none⟩ = some (.int .i64 0) := cell_of_row _ _ 8 _ _ _ HT.out.2.2
  have r9 : (w1).cell? ⟨w.heap.size + 1, 9, none⟩ = some (.slice none 0 0) := cell_of_row _ _ 9 _ _ _ HT.out.2.2
  have r10 : (w1).cell? ⟨w.heap.size + 1, 10, none⟩ = some (.slice none 0 0) := cell_of_row _ _ 10 _ _ _ HT.out.2.2
  have rf : ∀ q, w1.frozen? ⟨w.heap.size + 1, q, none⟩ = false := fun q => frozen_of_row _ _ q _ _ HT.out.2.2
  go_wp2_with (first | (go_at_call 46; refine (specAddrOK_walk _ _).mono ?_; rintro e w' ⟨rfl, rfl⟩) | (go_at_call 37; refine (In_walk _ _ _ _).mono ?_; rintro e w' ⟨rfl, rfl⟩))
  exact bodyPost_ret (v := .tuple #[.agg #[.int .i64 0, .int .i64 0, .bool false, .bool false, .int .i64 0, .int .i64 0, .int .i64 0, .int .i64 0, .int .i64 0, .slice none 0 0, .slice none 0 0], .int .i64 1]) (by simp [results, Tryd.results33, go_sem, r0, r1, r2, r3, r4, r5, r6, r7, r8, r9, r10]) rfl ⟨rfl, (below_11n HT.out.1.1 (Nat.le_succ _))⟩
set_option maxHeartbeats 4000000 in
theorem specCom_rest3 (x0 x1 : Int) (x2 x3 : Bool) (x4 x5 x6 x7 x8 : Int) (a0 : Option Addr) (n0 c0 : Nat) (a1 : Option Addr) (n1 c1 : Nat) (from_ kind_ code_ rest_ : Int) (M : Bool) (w : World) (hM : M = true) (h1 : adrB from_ = true) (h3 : inB code_ 0 255 = true) (h4 : inB rest_ 0 4294967295 = false) (hk : kind_ = 3)
   (cM : ∀ W, Below w.heap.size w W → Calls Tryd.prog 71 #[.agg #[.int .i64 x0, .int .i64 x1, .bool x2, .bool x3, .int .i64 x4, .int .i64 x5, .int .i64 x6, .int .i64 x7, .int .i64 x8, .slice a0 n0 c0, .slice a1 n1 c1]] W fun e w' => e = .returned (.bool M) ∧ Below W.heap.size W w') :
    Calls Tryd.prog 33 #[.agg #[.int .i64 x0, .int .i64 x1, .bool x2, .bool x3, .int .i64 x4, .int .i64 x5, .int .i64 x6, .int .i64 x7, .int .i64 x8, .slice a0 n0 c0, .slice a1 n1 c1], .int .i64 from_, .int .i64 kind_, .int .i64 code_, .int .i64 rest_] w fun e w' => e = .returned (.tuple #[.agg #[.int .i64 0, .int .i64 0, .bool false, .bool false, .int .i64 0, .int .i64 0, .int .i64 0, .int .i64 0, .int .i64 0, .slice none 0 0, .slice none 0 0], .int .i64 1]) ∧ Below w.heap.size w w' := by
  have HT := hide (TwoB.start w (.cells #[.int .i64 x0, .int .i64 x1, .bool x2, .bool x3, .int .i64 x4, .int .i64 x5, .int .i64 x6, .int .i64 x7, .int .i64 x8, .slice a0 n0 c0, .slice a1 n1 c1] 47) (.cells #[.int .i64 0, .int .i64 0, .bool false, .bool false, .int .i64 0, .int .i64 0, .int .i64 0, .int .i64 0, .int .i64 0, .slice none 0 0, .slice none 0 0] 47))
  have CM := hide cM
  clear cM
  subst hM hk
  have p0 : ((w.alloc (.cells #[.int .i64 x0, .int .i64 x1, .bool x2, .bool x3, .int .i64 x4, .int .i64 x5, .int .i64 x6, .int .i64 x7, .int .i64 x8, .slice a0 n0 c0, .slice a1 n1 c1] 47)).alloc (.cells #[.int .i64 0, .int .i64 0, .bool false, .bool false, .int .i64 0, .int .i64 0, .int .i64 0, .int .i64 0, .int .i64 0, .slice none 0 0, .slice none 0 0] 47)).cell? ⟨w.heap.size, 0, none⟩ = some (.int .i64 x0) := cell_of_row _ _ 0 _ _ _ HT.out.2.1
  have p1 : ((w.alloc (.cells #[.int .i64 x0, .int .i64 x1, .bool x2, .bool x3, .int .i64 x4, .int .i64 x5, .int .i64 x6, .int .i64 x7, .int .i64 x8, .slice a0 n0 c0, .slice a1 n1 c1] 47)).alloc (.cells #[.int .i64 0, .int .i64 0, .bool false, .bool false, .int .i64 0, .int .i64 0, .int .i64 0, .int .i64 0, .int .i64 0, .slice none 0 0, .slice none 0 0] 47)).cell? ⟨w.heap.size, 1, none⟩ = some (.int .i64 x1) := cell_of_row _ _ 1 _ _ _ HT.out.2.1
  have p2 : ((w.alloc (.cells #[.int .i64 x0, .int .i64 x1, .bool x2, .bool x3, .int .i64 x4, .int .i64 x5, .int .i64 x6, .int .i64 x7, .int .i64 x8, .slice a0 n0 c0, .slice a1 n1 c1] 47)).alloc (.cells #[.int .i64 0, .int .i64 0, .bool false, .bool false, .int .i64 0, .int .i64 0, .int .i64 0, .int .i64 0, .int .i64 0, .slice none 0 0, .slice none 0 0] 47)).cell? ⟨w.heap.size, 2, none⟩ = some (.bool x2) := cell_of_row _ _ 2 _ _ _ HT.out.2.1
  have p3 : ((w.alloc (.cells #[.int .i64 x0, .int .i64 x1, .bool x2, .bool x3, .int .i64 x4, .int .i64 x5, .int .i64 x6, .int .i64 x7, .int .i64 x8, .slice a0 n0 c0, .slice a1 n1 c1] 47)).alloc (.cells #[.int .i64 0, .int .i64 0, .bool false, .bool false, .int .i64 0, .int .i64 0, .int .i64 0, .int .i64 0, .int .i64 0, .slice none 0 0, .slice none 0 0] 47)).cell? ⟨w.heap.size, 3, none⟩ = some (.bool x3) := cell_of_row _ _ 3 _ _ _ HT.out.2.1
  have p4 : ((w.alloc (.cells #[.int .i64 x0, .int .i64 x1, .bool x2, .bool x3, .int .i64 x4, .int .i64 x5, .int .i64 x6, .int .i64 x7, .int .i64 x8, .slice a0 n0 c0, .slice a1 n1 c1] 47)).alloc (.cells #[.int .i64 0, .int .i64 0, .bool false, .bool false, .int .i64 0, .int .i64 0, .int .i64 0, .int .i64 0, .int .i64 0, .slice none 0 0, .slice none 0 0] 47)).cell? ⟨w.heap.size, 4, none⟩ = some (.int .i64 x4) := cell_of_row _ _ 4 _ _ _ HT.out.2.1
  have p5 : ((w.alloc (.cells #[.int .i64 x0, .int .i64 x1, .bool x2, .bool x3, .int .i64 x4, .int .i64 x5, .int .i64 x6, .int .i64 x7, .int .i64 x8, .slice a0 n0 c0, .slice a1 n1 c1] 47)).alloc (.cells #[.int .i64 0, .int .i64 0, .bool false, .bool false, .int .i64 0, .int .i64 0, .int .i64 0, .int .i64 0, .int .i64 0, .slice none 0 0, .slice none 0 0] 47)).cell? ⟨w.heap.size, 5, none⟩ = some (.int .i64 x5) := cell_of_row _ _ 5 _ _ _ HT.out.2.1
  have p6 : ((w.alloc (.cells #[.int .i64 x0, .int .i64 x1, .bool x2, .bool x3, .int .i64 x4, .int .i64 x5, .int .i64 x6, .int .i64 x7, .int .i64 x8, .slice a0 n0 c0, .slice a1 n1 c1] 47)).alloc (.cells #[.int .i64 0, .int .i64 0, .bool false, .bool false, .int .i64 0, .int .i64 0, .int .i64 0, .int .i64 0, .int .i64 0, .slice none 0 0, .slice none 0 0] 47)).cell? ⟨w.heap.size, 6, none⟩ = some (.int .i64 x6) := cell_of_row _ _ 6 _ _ _ HT.out.2.1
  have p7 : ((w.alloc (.cells #[.int .i64 x0, .int .i64 x1, .bool x2, .bool x3, .int .i64 x4, .int .i64 x5, .int .i64 x6, .int .i64 x7, .int .i64 x8, .slice a0 n0 c0, .slice a1 n1 c1] 47)).alloc (.cells #[.int .i64 0, .int .i64 0, .bool false, .bool false, .int .i64 0, .int .i64 0, .int .i64 0, .int .i64 0, .int .i64 0, .slice none 0 0, .slice none 0 0] 47)).cell? ⟨w.heap.size, 7, none⟩ = some (.int .i64 x7) := cell_of_row _ _ 7 _ _ _ HT.out.2.1
  have p8 : ((w.alloc (.cells #[.int .i64 x0, .int .i64 x1, .bool x2, .bool x3, .int .i64 x4, .int .i64 x5, .int .i64 x6, .int .i64 x7, .int .i64 x8, .slice a0 n0 c0, .slice a1 n1 c1] 47)).alloc (.cells #[.int .i64 0, .int .i64 0, .bool false, .bool false, .int .i64 0, .int .i64 0, .int .i64 0, .int .i64 0, .int .i64 0, .slice none 0 0, .slice none 0 0] 47)).cell? ⟨w.heap.size, 8, none⟩ = some (.int .i64 x8) := cell_of_row _ _ 8 _ _ _ HT.out.2.1
  have p9 : ((w.alloc (.cells #[.int .i64 x0, .int .i64 x1, .bool x2, .bool x3, .int .i64 x4, .int .i64 x5, .int .i64 x6, .int .i64 x7, .int .i64 x8, .slice a0 n0 c0, .slice a1 n1 c1] 47)).alloc (.cells #[.int .i64 0, .int .i64 0, .bool false, .bool false, .int .i64 0, .int .i64 0, .int .i64 0, .int .i64 0, .int .i64 0, .slice none 0 0, .slice none 0 0] 47)).cell? ⟨w.heap.size, 9, none⟩ = some (.slice a0 n0 c0) := cell_of_row _ _ 9 _ _ _ HT.out.2.1
  have p10 : ((w.alloc (.cells #[.int .i64 x0, .int .i64 x1, .bool x2, .bool x3, .int .i64 x4, .int .i64 x5, .int .i64 x6, .int .i64 x7, .int .i64 x8, .slice a0 n0 c0, .slice a1 n1 c1] 47)).alloc (.cells #[.int .i64 0, .int .i64 0, .bool false, .bool false, .int .i64 0, .int .i64 0, .int .i64 0, .int .i64 0, .int .i64 0, .slice none 0 0, .slice none 0 0] 47)).cell? ⟨w.heap.size, 10, none⟩ = some (.slice a1 n1 c1) := cell_of_row _ _ 10 _ _ _ HT.out.2.1
  go_enter Tryd.func33, Tryd.ntmps33
  go_wp2_with fail
  generalize (w.alloc (.cells #[.int .i64 x0, .int .i64 x1, .bool x2, .bool x3, .int .i64 x4, .int .i64 x5, .int .i64 x6, .int .i64 x7, .int .i64 x8, .slice a0 n0 c0, .slice a1 n1 c1] 47)).alloc (.cells #[.int .i64 0, .int .i64 0, .bool false, .bool false, .int .i64 0, .int .i64 0, .int .i64 0, .int .i64 0, .int .i64 0, .slice none 0 0, .slice none 0 0] 47) = W0 at *
  clear p0 p1 p2 p3 p4 p5 p6 p7 p8 p9 p10
  refine (CM.out _ HT.out.1.1).mono ?_
  rintro e w1 ⟨rfl, hb⟩
  replace HT := hide (HT.out.next hb)
  clear hb
  have r0 : (w1).cell? ⟨w.heap.size + 1, 0, none⟩ = some (.int .i64 0) := cell_of_row _ _ 0 _ _ _ HT.out.2.2
  have r1 : (w1).cell? ⟨w.heap.size + 1, 1, none⟩ = some (.int .i64 0) := cell_of_row _ _ 1 _ _ _ HT.out.2.2
  have r2 : (w1).cell? ⟨w.heap.size + 1, 2, none⟩ = some (.bool false) := cell_of_row _ _ 2 _ _ _ HT.out.2.2
  have r3 : (w1).cell? ⟨w.heap.size + 1, 3, none⟩ = some (.bool false) := cell_of_row _ _ 3 _ _ _ HT.out.2.2
  have r4 : (w1).cell? ⟨w.heap.size + 1, 4, none⟩ = some (.int .i64 0) := cell_of_row _ _ 4 _ _ _ HT.out.2.2
  have r5 : (w1).cell? ⟨w.heap.size + 1, 5, none⟩ = some (.int .i64 0) := cell_of_row _ _ 5 _ _ _ HT.out.2.2
  have r6 : (w1).cell? ⟨w.heap.size + 1, 6, none⟩ = some (.int .i64 0) := cell_of_row _ _ 6 _ _ _ HT.out.2.2
  have r7 : (w1).cell? ⟨w.heap.size + 1, 7, none⟩ = some (.int .i64 0) := cell_of_row _ _ 7 _ _ _ HT.out.2.2
  have r8 : (w1).cell? ⟨w.heap.size + 1, 8, none⟩ = some (.int .i64 0) := cell_of_row _ _ 8 _ _ _ HT.out.2.2
  have r9 : (w1).cell? ⟨w.heap.size + 1, 9, none⟩ = some (.slice none 0 0) := cell_of_row _ _ 9 _ _ _ HT.out.2.2
  have r10 : (w1).cell? ⟨w.heap.size + 1, 10, none⟩ = some (.slice none 0 0) := cell_of_row _ _ 10 _ _ _ HT.out.2.2
  have rf : ∀ q, w1.frozen? ⟨w.heap.size + 1, q, none⟩ = false := fun q => frozen_of_row _ _ q _ _ HT.out.2.2
  go_wp2_with (first | (go_at_call 46; refine (specAddrOK_walk _ _).mono ?_; rintro e w' ⟨rfl, rfl⟩) | (go_at_call 37; refine (In_walk _ _ _ _).mono ?_; rintro e w' ⟨rfl, rfl⟩))
  exact bodyPost_ret (v := .tuple #[.agg #[.int .i64 0, .int .i64 0, .bool false, .bool false, .int .i64 0, .int .i64 0, .int .i64 0, .int .i64 0, .int .i64 0, .slice none 0 0, .slice none 0 0], .int .i64 1]) (by simp [results, Tryd.results33, go_sem, r0, r1, r2, r3, r4, r5, r6, r7, r8, r9, r10]) rfl ⟨rfl, (below_11n HT.out.1.1 (Nat.le_succ _))⟩
set_option maxHeartbeats 4000000 in
theorem specCom_rest11 (x0 x1 : Int) (x2 x3 : Bool) (x4 x5 x6 x7 x8 : Int) (a0 : Option Addr) (n0 c0 : Nat) (a1 : Option Addr) (n1 c1 : Nat) (from_ kind_ code_ rest_ : Int) (M : Bool) (w : World) (hM : M = true) (h1 : adrB from_ = true) (h3 : inB code_ 0 255 = true) (h4 : inB rest_ 0 4294967295 = false) (hk : kind_ = 11)
   (cM : ∀ W, Below w.heap.size w W → Calls Tryd.prog 71 #[.agg #[.int .i64 x0, .int .i64 x1, .bool x2, .bool x3, .int .i64 x4, .int .i64 x5, .int .i64 x6, .int .i64 x7, .int .i64 x8, .slice a0 n0 c0, .slice a1 n1 c1]] W fun e w' => e = .returned (.bool M) ∧ Below W.heap.size W w') :
    Calls Tryd.prog 33 #[.agg #[.int .i64 x0, .int .i64 x1, .bool x2, .bool x3, .int .i64 x4, .int .i64 x5, .int .i64 x6, .int .i64 x7, .int .i64 x8, .slice a0 n0 c0, .slice a1 n1 c1], .int .i64 from_, .int .i64 kind_, .int .i64 code_, .int .i64 rest_] w fun e w' => e = .returned (.tuple #[.agg #[.int .i64 0, .int .i64 0, .bool false, .bool false, .int .i64 0, .int .i64 0, .int .i64 0, .int .i64 0, .int .i64 0, .slice none 0 0, .slice none 0 0], .int .i64 1]) ∧ Below w.heap.size w w' := by
  have HT := hide (TwoB.start w (.cells #[.int .i64 x0, .int .i64 x1, .bool x2, .bool x3, .int .i64 x4, .int .i64 x5, .int .i64 x6, .int .i64 x7, .int .i64 x8, .slice a0 n0 c0, .slice a1 n1 c1] 47) (.cells #[.int .i64 0, .int .i64 0, .bool false, .bool false, .int .i64 0, .int .i64 0, .int .i64 0, .int .i64 0, .int .i64 0, .slice none 0 0, .slice none 0 0] 47))
  have CM := hide cM
  clear cM
  subst hM hk
  have p0 : ((w.alloc (.cells #[.int .i64 x0, .int .i64 x1, .bool x2, .bool x3, .int .i64 x4, .int .i64 x5, .int .i64 x6, .int .i64 x7, .int .i64 x8, .slice a0 n0 c0, .slice a1 n1 c1] 47)).alloc (.cells #[.int .i64 0, .int .i64 0, .bool false, .bool false, .int .i64 0, .int .i64 0, .int .i64 0, .int .i64 0, .int .i64 0, .slice none 0 0, .slice none 0 0] 47)).cell? ⟨w.heap.size, 0, none⟩ = some (.int .i64 x0) := cell_of_row _ _ 0 _ _ _ HT.out.2.1
  have p1 : ((w.alloc (.cells #[.int .i64 x0, .int .i64 x1, .bool x2, .bool x3, .int .i64 x4, .int .i64 x5, .int .i64 x6, .int .i64 x7, .int .i64 x8, .slice a0 n0 c0, .slice a1 n1 c1] 47)).alloc (.cells #[.int .i64 0, .int .i64 0, .bool false, .bool false, .int .i64 0, .int .i64 0, .int .i64 0, .int .i64 0, .int .i64 0, .slice none 0 0, .slice none 0 0] 47)).cell? ⟨w.heap.size, 1, none⟩ = some (.int .i64 x1) := cell_of_row _ _ 1 _ _ _ HT.out.2.1
  have p2 : ((w.alloc (.cells #[.int .i64 x0, .int .i64 x1, .bool x2, .bool x3, .int .i64 x4, .int .i64 x5, .int .i64 x6, .int .i64 x7, .int .i64 x8, .slice a0 n0 c0, .slice a1 n1 c1] 47)).alloc (.cells #[.int .i64 0, .int .i64 0, .bool false, .bool false, .int .i64 0, .int .i64 0, .int .i64 0, .int .i64 0, .int .i64 0, .slice none 0 0, .slice none 0 0] 47)).cell? ⟨w.heap.size, 2, none⟩ = some (.bool x2) := cell_of_row _ _ 2 _ _ _ HT.out.2.1
  have p3 : ((w.alloc (.cells #[.int .i64 x0, .int .i64 x1, .bool x2, .bool x3, .int .i64 x4, .int .i64 x5, .int .i64 x6, .int .i64 x7, .int .i64 x8, .slice a0 n0 c0, .slice a1 n1 c1] 47)).alloc (.cells #[.int .i64 0, .int .i64 0, .bool false, .bool false, .int .i64 0, .int .i64 0, .int .i64 0, .int .i64 0, .int .i64 0, .slice none 0 0, .slice none 0 0] 47)).cell? ⟨w.heap.size, 3, none⟩ = some (.bool x3) := cell_of_row _ _ 3 _ _ _ HT.out.2.1
  have p4 : ((w.alloc (.cells #[.int .i64 x0, .int .i64 x1, .bool x2, .bool x3, .int .i64 x4, .int .i64 x5, .int .i64 x6, .int .i64 x7, .int .i64 x8, .slice a0 n0 c0, .slice a1 n1 c1] 47)).alloc (.cells #[.int .i64 0, .int .i64 0, .bool false, .bool false, .int .i64 0, .int .i64 0, .int .i64 0, .int .i64 0, .int .i64 0, .slice none 0 0, .slice none 0 0] 47)).cell? ⟨w.heap.size, 4, none⟩ = some (.int .i64 x4) := cell_of_row _ _ 4 _ _ _ HT.out.2.1
  have p5 : ((w.alloc (.cells #[.int .i64 x0, .int .i64 x1, .bool x2, .bool x3, .int .i64 x4, .int .i64 x5, .int .i64 x6, .int .i64 x7, .int .i64 x8, .slice a0 n0 c0, .slice a1 n1 c1] 47)).alloc (.cells #[.int .i64 0, .int .i64 0, .bool false, .bool false, .int .i64 0, .int .i64 0, .int .i64 0, .int .i64 0, .int .i64 0, .slice none 0 0, .slice none 0 0] 47)).cell? ⟨w.heap.size, 5, none⟩ = some (.int .i64 x5) := cell_of_row _ _ 5 _ _ _ HT.out.2.1
  have p6 : ((w.alloc (.cells #[.int .i64 x0, .int .i64 x1, .bool x2, .bool x3, .int .i64 x4, .int .i64 x5, .int .i64 x6, .int .i64 x7, .int .i64 x8, .slice a0 n0 c0, .slice a1 n1 c1] 47)).alloc (.cells #[.int .i64 0, .int .i64 0, .bool false, .bool false, .int .i64 0, .int .i64 0, .int .i64 0, .int .i64 0, .int .i64 0, .slice none 0 0, .slice none 0 0] 47)).cell? ⟨w.heap.size, 6, none⟩ = some (.int .i64 x6) := cell_of_row _ _ 6 _ _ _ HT.out.2.1
  have p7 : ((w.alloc (.cells #[.int .i64 x0, .int .i64 x1, .bool x2, .bool x3, .int .i64 x4, .int .i64 x5, .int .i64 x6, .int .i64 x7, .int .i64 x8, .slice a0 n0 c0, .slice a1 n1 c1] 47)).alloc (.cells #[.int .i64 0, .int .i64 0, .bool false, .bool false, .int .i64 0, .int .i64 0, .int .i64 0, .int .i64 0, .int .i64 0, .slice none 0 0, .slice none 0 0] 47)).cell? ⟨w.heap.size, 7, none⟩ = some (.int .i64 x7) := cell_of_row _ _ 7 _ _ _ HT.out.2.1
  have p8 : ((w.alloc (.cells #[.int .i64 x0, .int .i64 x1, .bool x2, .bool x3, .int .i64 x4, .int .i64 x5, .int .i64 x6, .int .i64 x7, .int .i64 x8, .slice a0 n0 c0, .slice a1 n1 c1] 47)).alloc (.cells #[.int .i64 0, .int .i64 0, .bool false, .bool false, .int .i64 0, .int .i64 0, .int .i64 0, .int .i64 0, .int .i64 0, .slice none 0 0, .slice none 0 0] 47)).cell? ⟨w.heap.size, 8, none⟩ = some (.int .i64 x8) := cell_of_row _ _ 8 _ _ _ HT.out.2.1
  have p9 : ((w.alloc (.cells #[.int .i64 x0, .int .i64 x1, .bool x2, .bool x3, .int .i64 x4, .int .i64 x5, .int .i64 x6, .int .i64 x7, .int .i64 x8, .slice a0 n0 c0, .slice a1 n1 c1] 47)).alloc (.cells #[.int .i64 0, .int .i64 0, .bool false, .bool false, .int .i64 0, .int .i64 0, .int .i64 0, .int .i64 0, .int .i64 0, .slice none 0 0, .slice none 0 0] 47)).cell? ⟨w.heap.size, 9, none⟩ = some (.slice a0 n0 c0) := cell_of_row _ _ 9 _ _ _ HT.out.2.1
  have p10 : ((w.alloc (.cells #[.int .i64 x0, .int .i64 x1, .bool x2, .bool x3, .int .i64 x4, .int .i64 x5, .int .i64 x6, .int .i64 x7, .int .i64 x8, .slice a0 n0 c0, .slice a1 n1 c1] 47)).alloc (.cells #[.int .i64 0, .int .i64 0, .bool false, .bool false, .int .i64 0, .int .i64 0, .int .i64 0, .int .i64 0, .int .i64 0, .slice none 0 0, .slice none 0 0] 47)).cell? ⟨w.heap.size, 10, none⟩ = some (.slice a1 n1 c1) := cell_of_row _ _ 10 _ _ _ HT.out.2.1
  go_enter Tryd.func33, Tryd.ntmps33
  go_wp2_with fail
  generalize (w.alloc (.cells #[.int .i64 x0, .int .i64 x1, .bool x2, .bool x3, .int .i64 x4, .int .i64 x5, .int .i64 x6, .int .i64 x7, .int .i64 x8, .slice a0 n0 c0, .slice a1 n1 c1] 47)).alloc (.cells #[.int .i64 0, .int .i64 0, .bool false, .bool false, .int .i64 0, .int .i64 0, .int .i64 0, .int .i64 0, .int .i64 0, .slice none 0 0, .slice none 0 0] 47) = W0 at *
  clear p0 p1 p2 p3 p4 p5 p6 p7 p8 p9 p10
  refine (CM.out _ HT.out.1.1).mono ?_
  rintro e w1 ⟨rfl, hb⟩
  replace HT := hide (HT.out.next hb)
  clear hb
  have r0 : (w1).cell? ⟨w.heap.size + 1, 0, none⟩ = some (.int .i64 0) := cell_of_row _ _ 0 _ _ _ HT.out.2.2
  have r1 : (w1).cell? ⟨w.heap.size + 1, 1, none⟩ = some (.int .i64 0) := cell_of_row _ _ 1 _ _ _ HT.out.2.2
  have r2 : (w1).cell? ⟨w.heap.size + 1, 2, none⟩ = some (.bool false) := cell_of_row _ _ 2 _ _ _ HT.out.2.2
  have r3 : (w1).cell? ⟨w.heap.size + 1, 3, none⟩ = some (.bool false) := cell_of_row _ _ 3 _ _ _ HT.out.2.2
  have r4 : (w1).cell? ⟨w.heap.size + 1, 4, none⟩ = some (.int .i64 0) := cell_of_row _ _ 4 _ _ _ HT.out.2.2
  have r5 : (w1).cell? ⟨w.heap.size + 1, 5, none⟩ = some (.int .i64 0) := cell_of_row _ _ 5 _ _ _ HT.out.2.2
  have r6 : (w1).cell? ⟨w.heap.size + 1, 6, none⟩ = some (.int .i64 0) := cell_of_row _ _ 6 _ _ _ HT.out.2.2
  have r7 : (w1).cell? ⟨w.heap.size + 1, 7, none⟩ = some (.int .i64 0) := cell_of_row _ _ 7 _ _ _ HT.out.2.2
  have r8 : (w1).cell? ⟨w.heap.size + 1, 8, none⟩ = some (.int .i64 0) := cell_of_row _ _ 8 _ _ _ HT.out.2.2
  have r9 : (w1).cell? ⟨w.heap.size + 1, 9, none⟩ = some (.slice none 0 0) := cell_of_row _ _ 9 _ _ _ HT.out.2.2
  have r10 : (w1).cell? ⟨w.heap.size + 1, 10, none⟩ = some (.slice none 0 0) := cell_of_row _ _ 10 _ _ _ HT.out.2.2
  have rf : ∀ q, w1.frozen? ⟨w.heap.size + 1, q, none⟩ = false := fun q => frozen_of_row _ _ q _ _ HT.out.2.2
  go_wp2_with (first | (go_at_call 46; refine (specAddrOK_walk _ _).mono ?_; rintro e w' ⟨rfl, rfl⟩) | (go_at_call 37; refine (In_walk _ _ _ _).mono ?_; rintro e w' ⟨rfl, rfl⟩))
  exact bodyPost_ret (v := .tuple #[.agg #[.int .i64 0, .int .i64 0, .bool false, .bool false, .int .i64 0, .int .i64 0, .int .i64 0, .int .i64 0, .int .i64 0, .slice none 0 0, .slice none 0 0], .int .i64 1]) (by simp [results, Tryd.results33, go_sem, r0, r1, r2, r3, r4, r5, r6, r7, r8, r9, r10]) rfl ⟨rfl, (below_11n HT.out.1.1 (Nat.le_succ _))⟩
set_option maxHeartbeats 4000000 in
theorem specCom_good3 (x0 x1 : Int) (x2 x3 : Bool) (x4 x5 x6 x7 x8 : Int) (a0 : Option Addr) (n0 c0 : Nat) (a1 : Option Addr) (n1 c1 : Nat) (from_ kind_ code_ rest_ : Int) (M : Bool) (w : World) (hM : M = true) (h1 : adrB from_ = true) (h3 : inB code_ 0 255 = true) (h4 : inB rest_ 0 4294967295 = true) (hk : kind_ = 3) (L ML : List Int) (N EN : Nat) (hN : L.length = N) (m0 : n0 ≤ 40) (hN2 : N ≤ 65535) (hE1 : EN ≤ N) (hE2 : EN = 28 + n0 ∨ (EN = N ∧ N < 28 + n0))
   (cE : ∀ W, Below w.heap.size w W → Calls Tryd.prog 24 #[.agg #[.int .i64 x0, .int .i64 x1, .bool x2, .bool x3, .int .i64 x4, .int .i64 x5, .int .i64 x6, .int .i64 x7, .int .i64 x8, .slice a0 n0 c0, .slice a1 n1 c1]] W fun e w' => ∃ v, e = .returned (.tuple #[v, .int .i64 0]) ∧ OwnB w' W.heap.size v L ∧ Below W.heap.size W w')
   (cI : ∀ W (a : Option Addr) (cap : Nat), Arr W a (L.take EN) → EN ≤ cap → Calls Tryd.prog 9 #[.agg #[.int .i64 3, .int .i64 code_, .int .i64 rest_, .slice a EN cap]] W fun e w' => ∃ v, e = .returned (.tuple #[v, .int .i64 0]) ∧ OwnB w' W.heap.size v ML ∧ Below W.heap.size W w')
   (cM : ∀ W, Below w.heap.size w W → Calls Tryd.prog 71 #[.agg #[.int .i64 x0, .int .i64 x1, .bool x2, .bool x3, .int .i64 x4, .int .i64 x5, .int .i64 x6, .int .i64 x7, .int .i64 x8, .slice a0 n0 c0, .slice a1 n1 c1]] W fun e w' => e = .returned (.bool M) ∧ Below W.heap.size W w') :
    Calls Tryd.prog 33 #[.agg #[.int .i64 x0, .int .i64 x1, .bool x2, .bool x3, .int .i64 x4, .int .i64 x5, .int .i64 x6, .int .i64 x7, .int .i64 x8, .slice a0 n0 c0, .slice a1 n1 c1], .int .i64 from_, .int .i64 kind_, .int .i64 code_, .int .i64 rest_] w fun e w' => ∃ v : Value, e = .returned (.tuple #[.agg #[.int .i64 0, .int .i64 0, .bool false, .bool false, .int .i64 0, .int .i64 64, .int .i64 1, .int .i64 from_, .int .i64 x7, .slice none 0 0, v], .int .i64 0]) ∧ OwnB w' w.heap.size v ML ∧ Below w.heap.size w w' := by
  have HT := hide (TwoB.start w (.cells #[.int .i64 x0, .int .i64 x1, .bool x2, .bool x3, .int .i64 x4, .int .i64 x5, .int .i64 x6, .int .i64 x7, .int .i64 x8, .slice a0 n0 c0, .slice a1 n1 c1] 47) (.cells #[.int .i64 0, .int .i64 0, .bool false, .bool false, .int .i64 0, .int .i64 0, .int .i64 0, .int .i64 0, .int .i64 0, .slice none 0 0, .slice none 0 0] 47))
  have CM := hide cM
  clear cM
  subst hM hk
  have CE := hide cE
  have CI := hide cI
  have HN := hide hN
  clear cE cI hN
  have p0 : ((w.alloc (.cells #[.int .i64 x0, .int .i64 x1, .bool x2, .bool x3, .int .i64 x4, .int .i64 x5, .int .i64 x6, .int .i64 x7, .int .i64 x8, .slice a0 n0 c0, .slice a1 n1 c1] 47)).alloc (.cells #[.int .i64 0, .int .i64 0, .bool false, .bool false, .int .i64 0, .int .i64 0, .int .i64 0, .int .i64 0, .int .i64 0, .slice none 0 0, .slice none 0 0] 47)).cell? ⟨w.heap.size, 0, none⟩ = some (.int .i64 x0) := cell_of_row _ _ 0 _ _ _ HT.out.2.1
  have p1 : ((w.alloc (.cells #[.int .i64 x0, .int .i64 x1, .bool x2, .bool x3, .int .i64 x4, .int .i64 x5, .int .i64 x6, .int .i64 x7, .int .i64 x8, .slice a0 n0 c0, .slice a1 n1 c1] 47)).alloc (.cells #[.int .i64 0, .int .i64 0, .bool false, .bool false, .int .i64 0, .int .i64 0, .int .i64 0, .int .i64 0, .int .i64 0, .slice none 0 0, .slice none 0 0] 47)).cell? ⟨w.heap.size, 1, none⟩ = some (.int .i64 x1) := cell_of_row _ _ 1 _ _ _ HT.out.2.1
  have p2 : ((w.alloc (.cells #[.int .i64 x0, .int .i64 x1, .bool x2, .bool x3, .int .i64 x4, .int .i64 x5, .int .i64 x6, .int .i64 x7, .int .i64 x8, .slice a0 n0 c0, .slice a1 n1 c1] 47)).alloc (.cells #[.int .i64 0, .int .i64 0, .bool false, .bool false, .int .i64 0, .int .i64 0, .int .i64 0, .int .i64 0, .int .i64 0, .slice none 0 0, .slice none 0 0] 47)).cell? ⟨w.heap.size, 2, none⟩ = some (.bool x2) := cell_of_row _ _ 2 _ _ _ HT.out.2.1
  have p3 : ((w.alloc (.cells #[.int .i64 x0, .int .i64 x1, .bool x2, .bool x3, .int .i64 x4, .int .i64 x5, .int .i64 x6, .int .i64 x7, .int .i64 x8, .slice a0 n0 c0, .slice a1 n1 c1] 47)).alloc (.cells #[.int .i64 0, .int .i64 0, .bool false, .bool false, .int .i64 0, .int .i64 0, .int .i64 0, .int .i64 0, .int .i64 0, .slice none 0 0, .slice none 0 0] 47)).cell? ⟨w.heap.size, 3, none⟩ = some (.bool x3) := cell_of_row _ _ 3 _ _ _ HT.out.2.1
  have p4 : ((w.alloc (.cells #[.int .i64 x0, .int .i64 x1, .bool x2, .bool x3, .int .i64 x4, .int .i64 x5, .int .i64 x6, .int .i64 x7, .int .i64 x8, .slice a0 n0 c0, .slice a1 n1 c1] 47)).alloc (.cells #[.int .i64 0, .int .i64 0, .bool false, .bool false, .int .i64 0, .int .i64 0, .int .i64 0, .int .i64 0, .int .i64 0, .slice none 0 0, .slice none 0 0] 47)).cell? ⟨w.heap.size, 4, none⟩ = some (.int .i64 x4) := cell_of_row _ _ 4 _ _ _ HT.out.2.1
  have p5 : ((w.alloc (.cells #[.int .i64 x0, .int .i64 x1, .bool x2, .bool x3, .int .i64 x4, .int .i64 x5, .int .i64 x6, .int .i64 x7, .int .i64 x8, .slice a0 n0 c0, .slice a1 n1 c1] 47)).alloc (.cells #[.int .i64 0, .int .i64 0, .bool false, .bool false, .int .i64 0, .int .i64 0, .int .i64 0, .int .i64 0, .int .i64 0, .slice none 0 0, .slice none 0 0] 47)).cell? ⟨w.heap.size, 5, none⟩ = some (.int .i64 x5) := cell_of_row _ _ 5 _ _ _ HT.out.2.1
  have p6 : ((w.alloc (.cells #[.int .i64 x0, .int .i64 x1, .bool x2, .bool x3, .int .i64 x4, .int .i64 x5, .int .i64 x6, .int .i64 x7, .int .i64 x8, .slice a0 n0 c0, .slice a1 n1 c1] 47)).alloc (.cells #[.int .i64 0, .int .i64 0, .bool false, .bool false, .int .i64 0, .int .i64 0, .int .i64 0, .int .i64 0, .int .i64 0, .slice none 0 0, .slice none 0 0] 47)).cell? ⟨w.heap.size, 6, none⟩ = some (.int .i64 x6) := cell_of_row _ _ 6 _ _ _ HT.out.2.1
  have p7 : ((w.alloc (.cells #[.int .i64 x0, .int .i64 x1, .bool x2, .bool x3, .int .i64 x4, .int .i64 x5, .int .i64 x6, .int .i64 x7, .int .i64 x8, .slice a0 n0 c0, .slice a1 n1 c1] 47)).alloc (.cells #[.int .i64 0, .int .i64 0, .bool false, .bool false, .int .i64 0, .int .i64 0, .int .i64 0, .int .i64 0, .int .i64 0, .slice none 0 0, .slice none 0 0] 47)).cell? ⟨w.heap.size, 7, none⟩ = some (.int .i64 x7) := cell_of_row _ _ 7 _ _ _ HT.out.2.1
  have p8 : ((w.alloc (.cells #[.int .i64 x0, .int .i64 x1, .bool x2, .bool x3, .int .i64 x4, .int .i64 x5, .int .i64 x6, .int .i64 x7, .int .i64 x8, .slice a0 n0 c0, .slice a1 n1 c1] 47)).alloc (.cells #[.int .i64 0, .int .i64 0, .bool false, .bool false, .int .i64 0, .int .i64 0, .int .i64 0, .int .i64 0, .int .i64 0, .slice none 0 0, .slice none 0 0] 47)).cell? ⟨w.heap.size, 8, none⟩ = some (.int .i64 x8) := cell_of_row _ _ 8 _ _ _ HT.out.2.1
  have p9 : ((w.alloc (.cells #[.int .i64 x0, .int .i64 x1, .bool x2, .bool x3, .int .i64 x4, .int .i64 x5, .int .i64 x6, .int .i64 x7, .int .i64 x8, .slice a0 n0 c0, .slice a1 n1 c1] 47)).alloc (.cells #[.int .i64 0, .int .i64 0, .bool false, .bool false, .int .i64 0, .int .i64 0, .int .i64 0, .int .i64 0, .int .i64 0, .slice none 0 0, .slice none 0 0] 47)).cell? ⟨w.heap.size, 9, none⟩ = some (.slice a0 n0 c0) := cell_of_row _ _ 9 _ _ _ HT.out.2.1
  have p10 : ((w.alloc (.cells #[.int .i64 x0, .int .i64 x1, .bool x2, .bool x3, .int .i64 x4, .int .i64 x5, .int .i64 x6, .int .i64 x7, .int .i64 x8, .slice a0 n0 c0, .slice a1 n1 c1] 47)).alloc (.cells #[.int .i64 0, .int .i64 0, .bool false, .bool false, .int .i64 0, .int .i64 0, .int .i64 0, .int .i64 0, .int .i64 0, .slice none 0 0, .slice none 0 0] 47)).cell? ⟨w.heap.size, 10, none⟩ = some (.slice a1 n1 c1) := cell_of_row _ _ 10 _ _ _ HT.out.2.1
  go_enter Tryd.func33, Tryd.ntmps33
  go_wp2_with fail
  generalize (w.alloc (.cells #[.int .i64 x0, .int .i64 x1, .bool x2, .bool x3, .int .i64 x4, .int .i64 x5, .int .i64 x6, .int .i64 x7, .int .i64 x8, .slice a0 n0 c0, .slice a1 n1 c1] 47)).alloc (.cells #[.int .i64 0, .int .i64 0, .bool false, .bool false, .int .i64 0, .int .i64 0, .int .i64 0, .int .i64 0, .int .i64 0, .slice none 0 0, .slice none 0 0] 47) = W0 at *
  clear p0 p1 p2 p3 p4 p5 p6 p7 p8 p9 p10
  refine (CM.out _ HT.out.1.1).mono ?_
  rintro e w1 ⟨rfl, hb⟩
  replace HT := hide (HT.out.next hb)
  clear hb
  have p0 : (w1).cell? ⟨w.heap.size, 0, none⟩ = some (.int .i64 x0) := cell_of_row _ _ 0 _ _ _ HT.out.2.1
  have p1 : (w1).cell? ⟨w.heap.size, 1, none⟩ = some (.int .i64 x1) := cell_of_row _ _ 1 _ _ _ HT.out.2.1
  have p2 : (w1).cell? ⟨w.heap.size, 2, none⟩ = some (.bool x2) := cell_of_row _ _ 2 _ _ _ HT.out.2.1
  have p3 : (w1).cell? ⟨w.heap.size, 3, none⟩ = some (.bool x3) := cell_of_row _ _ 3 _ _ _ HT.out.2.1
  have p4 : (w1).cell? ⟨w.heap.size, 4, none⟩ = some (.int .i64 x4) := cell_of_row _ _ 4 _ _ _ HT.out.2.1
  have p5 : (w1).cell? ⟨w.heap.size, 5, none⟩ = some (.int .i64 x5) := cell_of_row _ _ 5 _ _ _ HT.out.2.1
  have p6 : (w1).cell? ⟨w.heap.size, 6, none⟩ = some (.int .i64 x6) := cell_of_row _ _ 6 _ _ _ HT.out.2.1
  have p7 : (w1).cell? ⟨w.heap.size, 7, none⟩ = some (.int .i64 x7) := cell_of_row _ _ 7 _ _ _ HT.out.2.1
  have p8 : (w1).cell? ⟨w.heap.size, 8, none⟩ = some (.int .i64 x8) := cell_of_row _ _ 8 _ _ _ HT.out.2.1
  have p9 : (w1).cell? ⟨w.heap.size, 9, none⟩ = some (.slice a0 n0 c0) := cell_of_row _ _ 9 _ _ _ HT.out.2.1
  have p10 : (w1).cell? ⟨w.heap.size, 10, none⟩ = some (.slice a1 n1 c1) := cell_of_row _ _ 10 _ _ _ HT.out.2.1
  go_wp2_with (first | (go_at_call 46; refine (specAddrOK_walk _ _).mono ?_; rintro e w' ⟨rfl, rfl⟩) | (go_at_call 37; refine (In_walk _ _ _ _).mono ?_; rintro e w' ⟨rfl, rfl⟩))
  refine (CE.out _ HT.out.1.1).mono ?_
  rintro e w2 ⟨v, rfl, hO, hb⟩
  obtain ⟨ab, cb, hv, hA, hcb⟩ := hO.arr
  rw [HN.out] at hv hcb
  subst hv
  replace HT := hide (HT.out.next hb)
  have HA := hide hA
  clear hb hO hA
  clear p0 p1 p2 p3 p4 p5 p6 p7 p8 p9 p10
  have p0 : (w2).cell? ⟨w.heap.size, 0, none⟩ = some (.int .i64 x0) := cell_of_row _ _ 0 _ _ _ HT.out.2.1
  have p1 : (w2).cell? ⟨w.heap.size, 1, none⟩ = some (.int .i64 x1) := cell_of_row _ _ 1 _ _ _ HT.out.2.1
  have p2 : (w2).cell? ⟨w.heap.size, 2, none⟩ = some (.bool x2) := cell_of_row _ _ 2 _ _ _ HT.out.2.1
  have p3 : (w2).cell? ⟨w.heap.size, 3, none⟩ = some (.bool x3) := cell_of_row _ _ 3 _ _ _ HT.out.2.1
  have p4 : (w2).cell? ⟨w.heap.size, 4, none⟩ = some (.int .i64 x4) := cell_of_row _ _ 4 _ _ _ HT.out.2.1
  have p5 : (w2).cell? ⟨w.heap.size, 5, none⟩ = some (.int .i64 x5) := cell_of_row _ _ 5 _ _ _ HT.out.2.1
  have p6 : (w2).cell? ⟨w.heap.size, 6, none⟩ = some (.int .i64 x6) := cell_of_row _ _ 6 _ _ _ HT.out.2.1
  have p7 : (w2).cell? ⟨w.heap.size, 7, none⟩ = some (.int .i64 x7) := cell_of_row _ _ 7 _ _ _ HT.out.2.1
  have p8 : (w2).cell? ⟨w.heap.size, 8, none⟩ = some (.int .i64 x8) := cell_of_row _ _ 8 _ _ _ HT.out.2.1
  have p9 : (w2).cell? ⟨w.heap.size, 9, none⟩ = some (.slice a0 n0 c0) := cell_of_row _ _ 9 _ _ _ HT.out.2.1
  have p10 : (w2).cell? ⟨w.heap.size, 10, none⟩ = some (.slice a1 n1 c1) := cell_of_row _ _ 10 _ _ _ HT.out.2.1
  rcases hE2 with hE2 | ⟨hE2, hE3⟩
  · subst hE2
    go_wp2_with fail
    refine (CI.out _ ab cb (HA.out.take _) (by omega)).mono ?_
    rintro e w3 ⟨v2, rfl, hO, hb⟩
    obtain ⟨a2, k2, hv2, _⟩ := own_slice hO
    obtain ⟨l2, hl2⟩ : ∃ l2, l2 = ML.length := ⟨_, rfl⟩
    rw [← hl2] at hv2
    subst hv2
    have HO := hide hO
    have hz := HT.out.1.2
    replace HT := hide (HT.out.next hb)
    clear hb hO hl2
    clear p0 p1 p2 p3 p4 p5 p6 p7 p8 p9 p10
    have p0 : (w3).cell? ⟨w.heap.size, 0, none⟩ = some (.int .i64 x0) := cell_of_row _ _ 0 _ _ _ HT.out.2.1
    have p1 : (w3).cell? ⟨w.heap.size, 1, none⟩ = some (.int .i64 x1) := cell_of_row _ _ 1 _ _ _ HT.out.2.1
    have p2 : (w3).cell? ⟨w.heap.size, 2, none⟩ = some (.bool x2) := cell_of_row _ _ 2 _ _ _ HT.out.2.1
    have p3 : (w3).cell? ⟨w.heap.size, 3, none⟩ = some (.bool x3) := cell_of_row _ _ 3 _ _ _ HT.out.2.1
    have p4 : (w3).cell? ⟨w.heap.size, 4, none⟩ = some (.int .i64 x4) := cell_of_row _ _ 4 _ _ _ HT.out.2.1
    have p5 : (w3).cell? ⟨w.heap.size, 5, none⟩ = some (.int .i64 x5) := cell_of_row _ _ 5 _ _ _ HT.out.2.1
    have p6 : (w3).cell? ⟨w.heap.size, 6, none⟩ = some (.int .i64 x6) := cell_of_row _ _ 6 _ _ _ HT.out.2.1
    have p7 : (w3).cell? ⟨w.heap.size, 7, none⟩ = some (.int .i64 x7) := cell_of_row _ _ 7 _ _ _ HT.out.2.1
    have p8 : (w3).cell? ⟨w.heap.size, 8, none⟩ = some (.int .i64 x8) := cell_of_row _ _ 8 _ _ _ HT.out.2.1
    have p9 : (w3).cell? ⟨w.heap.size, 9, none⟩ = some (.slice a0 n0 c0) := cell_of_row _ _ 9 _ _ _ HT.out.2.1
    have p10 : (w3).cell? ⟨w.heap.size, 10, none⟩ = some (.slice a1 n1 c1) := cell_of_row _ _ 10 _ _ _ HT.out.2.1
    have r0 : (w3).cell? ⟨w.heap.size + 1, 0, none⟩ = some (.int .i64 0) := cell_of_row _ _ 0 _ _ _ HT.out.2.2
    have r1 : (w3).cell? ⟨w.heap.size + 1, 1, none⟩ = some (.int .i64 0) := cell_of_row _ _ 1 _ _ _ HT.out.2.2
    have r2 : (w3).cell? ⟨w.heap.size + 1, 2, none⟩ = some (.bool false) := cell_of_row _ _ 2 _ _ _ HT.out.2.2
    have r3 : (w3).cell? ⟨w.heap.size + 1, 3, none⟩ = some (.bool false) := cell_of_row _ _ 3 _ _ _ HT.out.2.2
    have r4 : (w3).cell? ⟨w.heap.size + 1, 4, none⟩ = some (.int .i64 0) := cell_of_row _ _ 4 _ _ _ HT.out.2.2
    have r5 : (w3).cell? ⟨w.heap.size + 1, 5, none⟩ = some (.int .i64 0) := cell_of_row _ _ 5 _ _ _ HT.out.2.2
    have r6 : (w3).cell? ⟨w.heap.size + 1, 6, none⟩ = some (.int .i64 0) := cell_of_row _ _ 6 _ _ _ HT.out.2.2
    have r7 : (w3).cell? ⟨w.heap.size + 1, 7, none⟩ = some (.int .i64 0) := cell_of_row _ _ 7 _ _ _ HT.out.2.2
    have r8 : (w3).cell? ⟨w.heap.size + 1, 8, none⟩ = some (.int .i64 0) := cell_of_row _ _ 8 _ _ _ HT.out.2.2
    have r9 : (w3).cell? ⟨w.heap.size + 1, 9, none⟩ = some (.slice none 0 0) := cell_of_row _ _ 9 _ _ _ HT.out.2.2
    have r10 : (w3).cell? ⟨w.heap.size + 1, 10, none⟩ = some (.slice none 0 0) := cell_of_row _ _ 10 _ _ _ HT.out.2.2
    have rf : ∀ q, w3.frozen? ⟨w.heap.size + 1, q, none⟩ = false := fun q => frozen_of_row _ _ q _ _ HT.out.2.2
    go_wp2_with fail
    exact bodyPost_ret (v := .tuple #[.agg #[.int .i64 0, .int .i64 0, .bool false, .bool false, .int .i64 0, .int .i64 64, .int .i64 1, .int .i64 from_, .int .i64 x7, .slice none 0 0, .slice a2 l2 k2], .int .i64 0]) (by simp [results, Tryd.results33, go_sem, r0, r1, r2, r3, r4, r5, r6, r7, r8, r9, r10]) rfl ⟨_, rfl, (ownb_11n HO.out hz).mono (by omega), below_11n HT.out.1.1 (Nat.le_succ _)⟩
  · subst hE2
    go_wp2_with fail
    refine (CI.out _ ab cb (HA.out.take _) (by omega)).mono ?_
    rintro e w3 ⟨v2, rfl, hO, hb⟩
    obtain ⟨a2, k2, hv2, _⟩ := own_slice hO
    obtain ⟨l2, hl2⟩ : ∃ l2, l2 = ML.length := ⟨_, rfl⟩
    rw [← hl2] at hv2
    subst hv2
    have HO := hide hO
    have hz := HT.out.1.2
    replace HT := hide (HT.out.next hb)
    clear hb hO hl2
    clear p0 p1 p2 p3 p4 p5 p6 p7 p8 p9 p10
    have p0 : (w3).cell? ⟨w.heap.size, 0, none⟩ = some (.int .i64 x0) := cell_of_row _ _ 0 _ _ _ HT.out.2.1
    have p1 : (w3).cell? ⟨w.heap.size, 1, none⟩ = some (.int .i64 x1) := cell_of_row _ _ 1 _ _ _ HT.out.2.1
    have p2 : (w3).cell? ⟨w.heap.size, 2, none⟩ = some (.bool x2) := cell_of_row _ _ 2 _ _ _ HT.out.2.1
    have p3 : (w3).cell? ⟨w.heap.size, 3, none⟩ = some (.bool x3) := cell_of_row _ _ 3 _ _ _ HT.out.2.1
    have p4 : (w3).cell? ⟨w.heap.size, 4, none⟩ = some (.int .i64 x4) := cell_of_row _ _ 4 _ _ _ HT.out.2.1
    have p5 : (w3).cell? ⟨w.heap.size, 5, none⟩ = some (.int .i64 x5) := cell_of_row _ _ 5 _ _ _ HT.out.2.1
    have p6 : (w3).cell? ⟨w.heap.size, 6, none⟩ = some (.int .i64 x6) := cell_of_row _ _ 6 _ _ _ HT.out.2.1
    have p7 : (w3).cell? ⟨w.heap.size, 7, none⟩ = some (.int .i64 x7) := cell_of_row _ _ 7 _ _ _ HT.out.2.1
    have p8 : (w3).cell? ⟨w.heap.size, 8, none⟩ = some (.int .i64 x8) := cell_of_row _ _ 8 _ _ _ HT.out.2.1
    have p9 : (w3).cell? ⟨w.heap.size, 9, none⟩ = some (.slice a0 n0 c0) := cell_of_row _ _ 9 _ _ _ HT.out.2.1
    have p10 : (w3).cell? ⟨w.heap.size, 10, none⟩ = some (.slice a1 n1 c1) := cell_of_row _ _ 10 _ _ _ HT.out.2.1
    have r0 : (w3).cell? ⟨w.heap.size + 1, 0, none⟩ = some (.int .i64 0) := cell_of_row _ _ 0 _ _ _ HT.out.2.2
    have r1 : (w3).cell? ⟨w.heap.size + 1, 1, none⟩ = some (.int .i64 0) := cell_of_row _ _ 1 _ _ _ HT.out.2.2
    have r2 : (w3).cell? ⟨w.heap.size + 1, 2, none⟩ = some (.bool false) := cell_of_row _ _ 2 _ _ _ HT.out.2.2
    have r3 : (w3).cell? ⟨w.heap.size + 1, 3, none⟩ = some (.bool false) := cell_of_row _ _ 3 _ _ _ HT.out.2.2
    have r4 : (w3).cell? ⟨w.heap.size + 1, 4, none⟩ = some (.int .i64 0) := cell_of_row _ _ 4 _ _ _ HT.out.2.2
    have r5 : (w3).cell? ⟨w.heap.size + 1, 5, none⟩ = some (.int .i64 0) := cell_of_row _ _ 5 _ _ _ HT.out.2.2
    have r6 : (w3).cell? ⟨w.heap.size + 1, 6, none⟩ = some (.int .i64 0) := cell_of_row _ _ 6 _ _ _ HT.out.2.2
    have r7 : (w3).cell? ⟨w.heap.size + 1, 7, none⟩ = some (.int .i64 0) := cell_of_row _ _ 7 _ _ _ HT.out.2.2
    have r8 : (w3).cell? ⟨w.heap.size + 1, 8, none⟩ = some (.int .i64 0) := cell_of_row _ _ 8 _ _ _ HT.out.2.2
    have r9 : (w3).cell? ⟨w.heap.size + 1, 9, none⟩ = some (.slice none 0 0) := cell_of_row _ _ 9 _ _ _ HT.out.2.2
    have r10 : (w3).cell? ⟨w.heap.size + 1, 10, none⟩ = some (.slice none 0 0) := cell_of_row _ _ 10 _ _ _ HT.out.2.2
    have rf : ∀ q, w3.frozen? ⟨w.heap.size + 1, q, none⟩ = false := fun q => frozen_of_row _ _ q _ _ HT.out.2.2
    go_wp2_with fail
    exact bodyPost_ret (v := .tuple #[.agg #[.int .i64 0, .int .i64 0, .bool false, .bool false, .int .i64 0, .int .i64 64, .int .i64 1, .int .i64 from_, .int .i64 x7, .slice none 0 0, .slice a2 l2 k2], .int .i64 0]) (by simp [results, Tryd.results33, go_sem, r0, r1, r2, r3, r4, r5, r6, r7, r8, r9, r10]) rfl ⟨_, rfl, (ownb_11n HO.out hz).mono (by omega), below_11n HT.out.1.1 (Nat.le_succ _)⟩
set_option maxHeartbeats 4000000 in
theorem specCom_good11 (x0 x1 : Int) (x2 x3 : Bool) (x4 x5 x6 x7 x8 : Int) (a0 : Option Addr) (n0 c0 : Nat) (a1 : Option Addr) (n1 c1 : Nat) (from_ kind_ code_ rest_ : Int) (M : Bool) (w : World) (hM : M = true) (h1 : adrB from_ = true) (h3 : inB code_ 0 255 = true) (h4 : inB rest_ 0 4294967295 = true) (hk : kind_ = 11) (L ML : List Int) (N EN : Nat) (hN : L.length = N) (m0 : n0 ≤ 40) (hN2 : N ≤ 65535) (hE1 : EN ≤ N) (hE2 : EN = 28 + n0 ∨ (EN = N ∧ N < 28 + n0))
   (cE : ∀ W, Below w.heap.size w W → Calls Tryd.prog 24 #[.agg #[.int .i64 x0, .int .i64 x1, .bool x2, .bool x3, .int .i64 x4, .int .i64 x5, .int .i64 x6, .int .i64 x7, .int .i64 x8, .slice a0 n0 c0, .slice a1 n1 c1]] W fun e w' => ∃ v, e = .returned (.tuple #[v, .int .i64 0]) ∧ OwnB w' W.heap.size v L ∧ Below W.heap.size W w')
   (cI : ∀ W (a : Option Addr) (cap : Nat), Arr W a (L.take EN) → EN ≤ cap → Calls Tryd.prog 9 #[.agg #[.int .i64 11, .int .i64 code_, .int .i64 rest_, .slice a EN cap]] W fun e w' => ∃ v, e = .returned (.tuple #[v, .int .i64 0]) ∧ OwnB w' W.heap.size v ML ∧ Below W.heap.size W w')
   (cM : ∀ W, Below w.heap.size w W → Calls Tryd.prog 71 #[.agg #[.int .i64 x0, .int .i64 x1, .bool x2, .bool x3, .int .i64 x4, .int .i64 x5, .int .i64 x6, .int .i64 x7, .int .i64 x8, .slice a0 n0 c0, .slice a1 n1 c1]] W fun e w' => e = .returned (.bool M) ∧ Below W.heap.size W w') :
    Calls Tryd.prog 33 #[.agg #[.int .i64 x0, .int .i64 x1, .bool x2, .bool x3, .int .i64 x4, .int .i64 x5, .int .i64 x6, .int .i64 x7, .int .i64 x8, .slice a0 n0 c0, .slice a1 n1 c1], .int .i64 from_, .int .i64 kind_, .int .i64 code_, .int .i64 rest_] w fun e w' => ∃ v : Value, e = .returned (.tuple #[.agg #[.int .i64 0, .int .i64 0, .bool false, .bool false, .int .i64 0, .int .i64 64, .int .i64 1, .int .i64 from_, .int .i64 x7, .slice none 0 0, v], .int .i64 0]) ∧ OwnB w' w.heap.size v ML ∧ Below w.heap.size w w' := by
  have HT := hide (TwoB.start w (.cells #[.int .i64 x0, .int .i64 x1, .bool x2, .bool x3, .int .i64 x4, .int .i64 x5, .int .i64 x6, .int .i64 x7, .int .i64 x8, .slice a0 n0 c0, .slice a1 n1 c1] 47) (.cells #[.int .i64 0, .int .i64 0, .bool false, .bool false, .int .i64 0, .int .i64 0, .int .i64 0, .int .i64 0, .int .i64 0, .slice none 0 0, .slice none 0 0] 47))
  have CM := hide cM
  clear cM
  subst hM hk
  have CE := hide cE
  have CI := hide cI
  have HN := hide hN
  clear cE cI hN
  have p0 : ((w.alloc (.cells #[.int .i64 x0, .int .i64 x1, .bool x2, .bool x3, .int .i64 x4, .int .i64 x5, .int .i64 x6, .int .i64 x7, .int .i64 x8, .slice a0 n0 c0, .slice a1 n1 c1] 47)).alloc (.cells #[.int .i64 0, .int .i64 0, .bool false, .bool false, .int .i64 0, .int .i64 0, .int .i64 0, .int .i64 0, .int .i64 0, .slice none 0 0, .slice none 0 0] 47)).cell? ⟨w.heap.size, 0, none⟩ = some (.int .i64 x0) := cell_of_row _ _ 0 _ _ _ HT.out.2.1
  have p1 : ((w.alloc (.cells #[.int .i64 x0, .int .i64 x1, .bool x2, .bool x3, .int .i64 x4, .int .i64 x5, .int .i64 x6, .int .i64 x7, .int .i64 x8, .slice a0 n0 c0, .slice a1 n1 c1] 47)).alloc (.cells #[.int .i64 0, .int .i64 0, .bool false, .bool false, .int .i64 0, .int .i64 0, .int .i64 0, .int .i64 0, .int .i64 0, .slice none 0 0, .slice none 0 0] 47)).cell? ⟨w.heap.size, 1, none⟩ = some (.int .i64 x1) := cell_of_row _ _ 1 _ _ _ HT.out.2.1
  have p2 : ((w.alloc (.cells #[.int .i64 x0, .int .i64 x1, .bool x2, .bool x3, .int .i64 x4, .int .i64 x5, .int .i64 x6, .int .i64 x7, .int .i64 x8, .slice a0 n0 c0, .slice a1 n1 c1] 47)).alloc (.cells #[.int .i64 0, .int .i64 0, .bool false, .bool false, .int .i64 0, .int .i64 0, .int .i64 0, .int .i64 0, .int .i64 0, .slice none 0 0, .slice none 0 0] 47)).cell? ⟨w.heap.size, 2, none⟩ = some (.bool x2) := cell_of_row _ _ 2 _ _ _ HT.out.2.1
  have p3 : ((w.alloc (.cells #[.int .i64 x0, .int .i64 x1, .bool x2, .bool x3, .int .i64 x4, .int .i64 x5, .int .i64 x6, .int .i64 x7, .int .i64 x8, .slice a0 n0 c0, .slice a1 n1 c1] 47)).alloc (.cells #[.int .i64 0, .int .i64 0, .bool false, .bool false, .int .i64 0, .int .i64 0, .int .i64 0, .int .i64 0, .int .i64 0, .slice none 0 0, .slice none 0 0] 47)).cell? ⟨w.heap.size, 3, none⟩ = some (.bool x3) := cell_of_row _ _ 3 _ _ _ HT.out.2.1
  have p4 : ((w.alloc (.cells #[.int .i64 x0, .int .i64 x1, .bool x2, .bool x3, .int .i64 x4, .int .i64 x5, .int .i64 x6, .int .i64 x7, .int .i64 x8, .slice a0 n0 c0, .slice a1 n1 c1] 47)).alloc (.cells #[.int .i64 0, .int .i64 0, .bool false, .bool false, .int .i64 0, .int .i64 0, .int .i64 0, .int .i64 0, .int .i64 0, .slice none 0 0, .slice none 0 0] 47)).cell? ⟨w.heap.size, 4, none⟩ = some (.int .i64 x4) := cell_of_row _ _ 4 _ _ _ HT.out.2.1
  have p5 : ((w.alloc (.cells #[.int .i64 x0, .int .i64 x1, .bool x2, .bool x3, .int .i64 x4, .int .i64 x5, .int .i64 x6, .int .i64 x7, .int .i64 x8, .slice a0 n0 c0, .slice a1 n1 c1] 47)).alloc (.cells #[.int .i64 0, .int .i64 0, .bool false, .bool false, .int .i64 0, .int .i64 0, .int .i64 0, .int .i64 0, .int .i64 0, .slice none 0 0, .slice none 0 0] 47)).cell? ⟨w.heap.size, 5, none⟩ = some (.int .i64 x5) := cell_of_row _ _ 5 _ _ _ HT.out.2.1
  have p6 : ((w.alloc (.cells #[.int .i64 x0, .int .i64 x1, .bool x2, .bool x3, .int .i64 x4, .int .i64 x5, .int .i64 x6, .int .i64 x7, .int .i64 x8, .slice a0 n0 c0, .slice a1 n1 c1] 47)).alloc (.cells #[.int .i64 0, .int .i64 0, .bool false, .bool false, .int .i64 0, .int .i64 0, .int .i64 0, .int .i64 0, .int .i64 0, .slice none 0 0, .slice none 0 0] 47)).cell? ⟨w.heap.size, 6, none⟩ = some (.int .i64 x6) := cell_of_row _ _ 6 _ _ _ HT.out.2.1
  have p7 : ((w.alloc (.cells #[.int .i64 x0, .int .i64 x1, .bool x2, .bool x3, .int .i64 x4, .int .i64 x5, .int .i64 x6, .int .i64 x7, .int .i64 x8, .slice a0 n0 c0, .slice a1 n1 c1] 47)).alloc (.cells #[.int .i64 0, .int .i64 0, .bool false, .bool false, .int .i64 0, .int .i64 0, .int .i64 0, .int .i64 0, .int .i64 0, .slice none 0 0, .slice none 0 0] 47)).cell? ⟨w.heap.size, 7, none⟩ = some (.int .i64 x7) := cell_of_row _ _ 7 _ _ _ HT.out.2.1
  have p8 : ((w.alloc (.cells #[.int .i64 x0, .int .i64 x1, .bool x2, .bool x3, .int .i64 x4, .int .i64 x5, .int .i64 x6, .int .i64 x7, .int .i64 x8, .slice a0 n0 c0, .slice a1 n1 c1] 47)).alloc (.cells #[.int .i64 0, .int .i64 0, .bool false, .bool false, .int .i64 0, .int .i64 0, .int .i64 0, .int .i64 0, .int .i64 0, .slice none 0 0, .slice none 0 0] 47)).cell? ⟨w.heap.size, 8, none⟩ = some (.int .i64 x8) := cell_of_row _ _ 8 _ _ _ HT.out.2.1
  have p9 : ((w.alloc (.cells #[.int .i64 x0, .int .i64 x1, .bool x2, .bool x3, .int .i64 x4, .int .i64 x5, .int .i64 x6, .int .i64 x7, .int .i64 x8, .slice a0 n0 c0, .slice a1 n1 c1] 47)).alloc (.cells #[.int .i64 0, .int .i64 0, .bool false, .bool false, .int .i64 0, .int .i64 0, .int .i64 0, .int .i64 0, .int .i64 0, .slice none 0 0, .slice none 0 0] 47)).cell? ⟨w.heap.size, 9, none⟩ = some (.slice a0 n0 c0) := cell_of_row _ _ 9 _ _ _ HT.out.2.1
  have p10 : ((w.alloc (.cells #[.int .i64 x0, .int .i64 x1, .bool x2, .bool x3, .int .i64 x4, .int .i64 x5, .int .i64 x6, .int .i64 x7, .int .i64 x8, .slice a0 n0 c0, .slice a1 n1 c1] 47)).alloc (.cells #[.int .i64 0, .int .i64 0, .bool false, .bool false, .int .i64 0, .int .i64 0, .int .i64 0, .int .i64 0, .int .i64 0, .slice none 0 0, .slice none 0 0] 47)).cell? ⟨w.heap.size, 10, none⟩ = some (.slice a1 n1 c1) := cell_of_row _ _ 10 _ _ _ HT.out.2.1
  go_enter Tryd.func33, Tryd.ntmps33
  go_wp2_with fail
  generalize (w.alloc (.cells #[.int .i64 x0, .int .i64 x1, .bool x2, .bool x3, .int .i64 x4, .int .i64 x5, .int .i64 x6, .int .i64 x7, .int .i64 x8, .slice a0 n0 c0, .slice a1 n1 c1] 47)).alloc (.cells #[.int .i64 0, .int .i64 0, .bool false, .bool false, .int .i64 0, .int .i64 0, .int .i64 0, .int .i64 0, .int .i64 0, .slice none 0 0, .slice none 0 0] 47) = W0 at *
  clear p0 p1 p2 p3 p4 p5 p6 p7 p8 p9 p10
  refine (CM.out _ HT.out.1.1).mono ?_
  rintro e w1 ⟨rfl, hb⟩
  replace HT := hide (HT.out.next hb)
  clear hb
  have p0 : (w1).cell? ⟨w.heap.size, 0, none⟩ = some (.int .i64 x0) := cell_of_row _ _ 0 _ _ _ HT.out.2.1
  have p1 : (w1).cell? ⟨w.heap.size, 1, none⟩ = some (.int .i64 x1) := cell_of_row _ _ 1 _ _ _ HT.out.2.1
  have p2 : (w1).cell? ⟨w.heap.size, 2, none⟩ = some (.bool x2) := cell_of_row _ _ 2 _ _ _ HT.out.2.1
  have p3 : (w1).cell? ⟨w.heap.size, 3, none⟩ = some (.bool x3) := cell_of_row _ _ 3 _ _ _ HT.out.2.1
  have p4 : (w1).cell? ⟨w.heap.size, 4, none⟩ = some (.int .i64 x4) := cell_of_row _ _ 4 _ _ _ HT.out.2.1
  have p5 : (w1).cell? ⟨w.heap.size, 5, none⟩ = some (.int .i64 x5) := cell_of_row _ _ 5 _ _ _ HT.out.2.1
  have p6 : (w1).cell? ⟨w.heap.size, 6, none⟩ = some (.int .i64 x6) := cell_of_row _ _ 6 _ _ _ HT.out.2.1
  have p7 : (w1).cell? ⟨w.heap.size, 7, none⟩ = some (.int .i64 x7) := cell_of_row _ _ 7 _ _ _ HT.out.2.1
  have p8 : (w1).cell? ⟨w.heap.size, 8, none⟩ = some (.int .i64 x8) := cell_of_row _ _ 8 _ _ _ HT.out.2.1
  have p9 : (w1).cell? ⟨w.heap.size, 9, none⟩ = some (.slice a0 n0 c0) := cell_of_row _ _ 9 _ _ _ HT.out.2.1
  have p10 : (w1).cell? ⟨w.heap.size, 10, none⟩ = some (.slice a1 n1 c1) := cell_of_row _ _ 10 _ _ _ HT.out.2.1
  go_wp2_with (first | (go_at_call 46; refine (specAddrOK_walk _ _).mono ?_; rintro e w' ⟨rfl, rfl⟩) | (go_at_call 37; refine (In_walk _ _ _ _).mono ?_; rintro e w' ⟨rfl, rfl⟩))
  refine (CE.out _ HT.out.1.1).mono ?_
  rintro e w2 ⟨v, rfl, hO, hb⟩
  obtain ⟨ab, cb, hv, hA, hcb⟩ := hO.arr
  rw [HN.out] at hv hcb
  subst hv
  replace HT := hide (HT.out.next hb)
  have HA := hide hA
  clear hb hO hA
  clear p0 p1 p2 p3 p4 p5 p6 p7 p8 p9 p10
  have p0 : (w2).cell? ⟨w.heap.size, 0, none⟩ = some (.int .i64 x0) := cell_of_row _ _ 0 _ _ _ HT.out.2.1
  have p1 : (w2).cell? ⟨w.heap.size, 1, none⟩ = some (.int .i64 x1) := cell_of_row _ _ 1 _ _ _ HT.out.2.1
  have p2 : (w2).cell? ⟨w.heap.size, 2, none⟩ = some (.bool x2) := cell_of_row _ _ 2 _ _ _ HT.out.2.1
  have p3 : (w2).cell? ⟨w.heap.size, 3, none⟩ = some (.bool x3) := cell_of_row _ _ 3 _ _ _ HT.out.2.1
  have p4 : (w2).cell? ⟨w.heap.size, 4, none⟩ = some (.int .i64 x4) := cell_of_row _ _ 4 _ _ _ HT.out.2.1
  have p5 : (w2).cell? ⟨w.heap.size, 5, none⟩ = some (.int .i64 x5) := cell_of_row _ _ 5 _ _ _ HT.out.2.1
  have p6 : (w2).cell? ⟨w.heap.size, 6, none⟩ = some (.int .i64 x6) := cell_of_row _ _ 6 _ _ _ HT.out.2.1
  have p7 : (w2).cell? ⟨w.heap.size, 7, none⟩ = some (.int .i64 x7) := cell_of_row _ _ 7 _ _ _ HT.out.2.1
  have p8 : (w2).cell? ⟨w.heap.size, 8, none⟩ = some (.int .i64 x8) := cell_of_row _ _ 8 _ _ _ HT.out.2.1
  have p9 : (w2).cell? ⟨w.heap.size, 9, none⟩ = some (.slice a0 n0 c0) := cell_of_row _ _ 9 _ _ _ HT.out.2.1
  have p10 : (w2).cell? ⟨w.heap.size, 10, none⟩ = some (.slice a1 n1 c1) := cell_of_row _ _ 10 _ _ _ HT.out.2.1
  rcases hE2 with hE2 | ⟨hE2, hE3⟩
  · subst hE2
    go_wp2_with fail
    refine (CI.out _ ab cb (HA.out.take _) (by omega)).mono ?_
    rintro e w3 ⟨v2, rfl, hO, hb⟩
    obtain ⟨a2, k2, hv2, _⟩ := own_slice hO
    obtain ⟨l2, hl2⟩ : ∃ l2, l2 = ML.length := ⟨_, rfl⟩
    rw [← hl2] at hv2
    subst hv2
    have HO := hide hO
    have hz := HT.out.1.2
    replace HT := hide (HT.out.next hb)
    clear hb hO hl2
    clear p0 p1 p2 p3 p4 p5 p6 p7 p8 p9 p10
    have p0 : (w3).cell? ⟨w.heap.size, 0, none⟩ = some (.int .i64 x0) := cell_of_row _ _ 0 _ _ _ HT.out.2.1
    have p1 : (w3).cell? ⟨w.heap.size, 1, none⟩ = some (.int .i64 x1) := cell_of_row _ _ 1 _ _ _ HT.out.2.1
    have p2 : (w3).cell? ⟨w.heap.size, 2, none⟩ = some (.bool x2) := cell_of_row _ _ 2 _ _ _ HT.out.2.1
    have p3 : (w3).cell? ⟨w.heap.size, 3, none⟩ = some (.bool x3) := cell_of_row _ _ 3 _ _ _ HT.out.2.1
    have p4 : (w3).cell? ⟨w.heap.size, 4, none⟩ = some (.int .i64 x4) := cell_of_row _ _ 4 _ _ _ HT.out.2.1
    have p5 : (w3).cell? ⟨w.heap.size, 5, none⟩ = some (.int .i64 x5) := cell_of_row _ _ 5 _ _ _ HT.out.2.1
    have p6 : (w3).cell? ⟨w.heap.size, 6, none⟩ = some (.int .i64 x6) := cell_of_row _ _ 6 _ _ _ HT.out.2.1
    have p7 : (w3).cell? ⟨w.heap.size, 7, none⟩ = some (.int .i64 x7) := cell_of_row _ _ 7 _ _ _ HT.out.2.1
    have p8 : (w3).cell? ⟨w.heap.size, 8, none⟩ = some (.int .i64 x8) := cell_of_row _ _ 8 _ _ _ HT.out.2.1
    have p9 : (w3).cell? ⟨w.heap.size, 9, none⟩ = some (.slice a0 n0 c0) := cell_of_row _ _ 9 _ _ _ HT.out.2.1
    have p10 : (w3).cell? ⟨w.heap.size, 10, none⟩ = some (.slice a1 n1 c1) := cell_of_row _ _ 10 _ _ _ HT.out.2.1
    have r0 : (w3).cell? ⟨w.heap.size + 1, 0, none⟩ = some (.int .i64 0) := cell_of_row _ _ 0 _ _ _ HT.out.2.2
    have r1 : (w3).cell? ⟨w.heap.size + 1, 1, none⟩ = some (.int .i64 0) := cell_of_row _ _ 1 _ _ _ HT.out.2.2
    have r2 : (w3).cell? ⟨w.heap.size + 1, 2, none⟩ = some (.bool false) := cell_of_row _ _ 2 _ _ _ HT.out.2.2
    have r3 : (w3).cell? ⟨w.heap.size + 1, 3, none⟩ = some (.bool false) := cell_of_row _ _ 3 _ _ _ HT.out.2.2
    have r4 : (w3).cell? ⟨w.heap.size + 1, 4, none⟩ = some (.int .i64 0) := cell_of_row _ _ 4 _ _ _ HT.out.2.2
    have r5 : (w3).cell? ⟨w.heap.size + 1, 5, none⟩ = some (.int .i64 0) := cell_of_row _ _ 5 _ _ _ HT.out.2.2
    have r6 : (w3).cell? ⟨w.heap.size + 1, 6, none⟩ = some (.int .i64 0) := cell_of_row _ _ 6 _ _ _ HT.out.2.2
    have r7 : (w3).cell? ⟨w.heap.size + 1, 7, none⟩ = some (.int .i64 0) := cell_of_row _ _ 7 _ _ _ HT.out.2.2
    have r8 : (w3).cell? ⟨w.heap.size + 1, 8, none⟩ = some (.int .i64 0) := cell_of_row _ _ 8 _ _ _ HT.out.2.2
    have r9 : (w3).cell? ⟨w.heap.size + 1, 9, none⟩ = some (.slice none 0 0) := cell_of_row _ _ 9 _ _ _ HT.out.2.2
    have r10 : (w3).cell? ⟨w.heap.size + 1, 10, none⟩ = some (.slice none 0 0) := cell_of_row _ _ 10 _ _ _ HT.out.2.2
    have rf : ∀ q, w3.frozen? ⟨w.heap.size + 1, q, none⟩ = false := fun q => frozen_of_row _ _ q _ _ HT.out.2.2
    go_wp2_with fail
    exact bodyPost_ret (v := .tuple #[.agg #[.int .i64 0, .int .i64 0, .bool false, .bool false, .int .i64 0, .int .i64 64, .int .i64 1, .int .i64 from_, .int .i64 x7, .slice none 0 0, .slice a2 l2 k2], .int .i64 0]) (by simp [results, Tryd.results33, go_sem, r0, r1, r2, r3, r4, r5, r6, r7, r8, r9, r10]) rfl ⟨_, rfl, (ownb_11n HO.out hz).mono (by omega), below_11n HT.out.1.1 (Nat.le_succ _)⟩
  · subst hE2
    go_wp2_with fail
    refine (CI.out _ ab cb (HA.out.take _) (by omega)).mono ?_
    rintro e w3 ⟨v2, rfl, hO, hb⟩
    obtain ⟨a2, k2, hv2, _⟩ := own_slice hO
    obtain ⟨l2, hl2⟩ : ∃ l2, l2 = ML.length := ⟨_, rfl⟩
    rw [← hl2] at hv2
    subst hv2
    have HO := hide hO
    have hz := HT.out.1.2
    replace HT := hide (HT.out.next hb)
    clear hb hO hl2
    clear p0 p1 p2 p3 p4 p5 p6 p7 p8 p9 p10
    have p0 : (w3).cell? ⟨w.heap.size, 0, none⟩ = some (.int .i64 x0) := cell_of_row _ _ 0 _ _ _ HT.out.2.1
    have p1 : (w3).cell? ⟨w.heap.size, 1, none⟩ = some (.int .i64 x1) := cell_of_row _ _ 1 _ _ _ HT.out.2.1
    have p2 : (w3).cell? ⟨w.heap.size, 2, none⟩ = some (.bool x2) := cell_of_row _ _ 2 _ _ _ HT.out.2.1
    have p3 : (w3).cell? ⟨w.heap.size, 3, none⟩ = some (.bool x3) := cell_of_row _ _ 3 _ _ _ HT.out.2.1
    have p4 : (w3).cell? ⟨w.heap.size, 4, none⟩ = some (.int .i64 x4) := cell_of_row _ _ 4 _ _ _ HT.out.2.1
    have p5 : (w3).cell? ⟨w.heap.size, 5, none⟩ = some (.int .i64 x5) := cell_of_row _ _ 5 _ _ _ HT.out.2.1
    have p6 : (w3).cell? ⟨w.heap.size, 6, none⟩ = some (.int .i64 x6) := cell_of_row _ _ 6 _ _ _ HT.out.2.1
    have p7 : (w3).cell? ⟨w.heap.size, 7, none⟩ = some (.int .i64 x7) := cell_of_row _ _ 7 _ _ _ HT.out.2.1
    have p8 : (w3).cell? ⟨w.heap.size, 8, none⟩ = some (.int .i64 x8) := cell_of_row _ _ 8 _ _ _ HT.out.2.1
    have p9 : (w3).cell? ⟨w.heap.size, 9, none⟩ = some (.slice a0 n0 c0) := cell_of_row _ _ 9 _ _ _ HT.out.2.1
    have p10 : (w3).cell? ⟨w.heap.size, 10, none⟩ = some (.slice a1 n1 c1) := cell_of_row _ _ 10 _ _ _ HT.out.2.1
    have r0 : (w3).cell? ⟨w.heap.size + 1, 0, none⟩ = some (.int .i64 0) := cell_of_row _ _ 0 _ _ _ HT.out.2.2
    have r1 : (w3).cell? ⟨w.heap.size + 1, 1, none⟩ = some (.int .i64 0) := cell_of_row _ _ 1 _ _ _ HT.out.2.2
    have r2 : (w3).cell? ⟨w.heap.size + 1, 2, none⟩ = some (.bool false) := cell_of_row _ _ 2 _ _ _ HT.out.2.2
    have r3 : (w3).cell? ⟨w.heap.size + 1, 3, none⟩ = some (.bool false) := cell_of_row _ _ 3 _ _ _ HT.out.2.2
    have r4 : (w3).cell? ⟨w.heap.size + 1, 4, none⟩ = some (.int .i64 0) := cell_of_row _ _ 4 _ _ _ HT.out.2.2
    have r5 : (w3).cell? ⟨w.heap.size + 1, 5, none⟩ = some (.int .i64 0) := cell_of_row _ _ 5 _ _ _ HT.out.2.2
    have r6 : (w3).cell? ⟨w.heap.size + 1, 6, none⟩ = some (.int .i64 0) := cell_of_row _ _ 6 _ _ _ HT.out.2.2
    have r7 : (w3).cell? ⟨w.heap.size + 1, 7, none⟩ = some (.int .i64 0) := cell_of_row _ _ 7 _ _ _ HT.out.2.2
    have r8 : (w3).cell? ⟨w.heap.size + 1, 8, none⟩ = some (.int .i64 0) := cell_of_row _ _ 8 _ _ _ HT.out.2.2
    have r9 : (w3).cell? ⟨w.heap.size + 1, 9, none⟩ = some (.slice none 0 0) := cell_of_row _ _ 9 _ _ _ HT.out.2.2
    have r10 : (w3).cell? ⟨w.heap.size + 1, 10, none⟩ = some (.slice none 0 0) := cell_of_row _ _ 10 _ _ _ HT.out.2.2
    have rf : ∀ q, w3.frozen? ⟨w.heap.size + 1, q, none⟩ = false := fun q => frozen_of_row _ _ q _ _ HT.out.2.2
    go_wp2_with fail
    exact bodyPost_ret (v := .tuple #[.agg #[.int .i64 0, .int .i64 0, .bool false, .bool false, .int .i64 0, .int .i64 64, .int .i64 1, .int .i64 from_, .int .i64 x7, .slice none 0 0, .slice a2 l2 k2], .int .i64 0]) (by simp [results, Tryd.results33, go_sem, r0, r1, r2, r3, r4, r5, r6, r7, r8, r9, r10]) rfl ⟨_, rfl, (ownb_11n HO.out hz).mono (by omega), below_11n HT.out.1.1 (Nat.le_succ _)⟩
end Go.Proofs.YtakoagfeiolkjabDoor
