/-
Contracts of functions of this seat.
-/
import Derived.Test.YtcnfnimgpiaamaaDoorRows
import Derived.WalkKit
import Derived.ProofKit
import Derived.OpenShut
import Derived.Test.YtcnfnimgpiaamaaDoorFst
namespace Go.Proofs.YtcnfnimgpiaamaaDoor
open Go.ChangeShapes Go.WideShapes Go.ChangeAt Go.RowKit
set_option linter.unusedVariables false
set_option maxRecDepth 100000
set_option maxHeartbeats 4000000 in
theorem eqSegment_d (w : World) (x0 : Int) (x1 : Int) (x2 : Int) (x3 : Int) (x4 : Int) (x5 : Int) (x6 : Int) (x7 : Bool) (x8 : Int) (x9 : Bool) (a0 : Option Addr) (n0 c0 : Nat) (a1 : Option Addr) (n1 c1 : Nat) (b0 : Option Addr) (d0 : Nat) (b1 : Option Addr) (d1 : Nat) (hf0 : ∀ (W : World), Below w.heap.size w W → Calls Tryd.prog 35 #[.slice a0 n0 c0, .slice b0 n0 d0] W fun e w' => e = .returned (.bool true) ∧ Below W.heap.size W w') (hf1 : ∀ (W : World), Below w.heap.size w W → Calls Tryd.prog 15 #[.slice a1 n1 c1, .slice b1 n1 d1] W fun e w' => e = .returned (.bool true) ∧ Below W.heap.size W w') :
    Calls Tryd.prog 11 #[.agg #[.int .i64 x0, .int .i64 x1, .int .i64 x2, .int .i64 x3, .int .i64 x4, .int .i64 x5, .int .i64 x6, .bool x7, .int .i64 x8, .bool x9, .slice a0 n0 c0, .slice a1 n1 c1], .agg #[.int .i64 x0, .int .i64 x1, .int .i64 x2, .int .i64 x3, .int .i64 x4, .int .i64 x5, .int .i64 x6, .bool x7, .int .i64 x8, .bool x9, .slice b0 n0 d0, .slice b1 n1 d1]] w fun e w' => e = .returned (.bool true) ∧ Below w.heap.size w w' := by
  have HF0 := hide hf0
  clear hf0
  have HF1 := hide hf1
  clear hf1
  have HW := hide (TwoB.start w (.cells #[.int .i64 x0, .int .i64 x1, .int .i64 x2, .int .i64 x3, .int .i64 x4, .int .i64 x5, .int .i64 x6, .bool x7, .int .i64 x8, .bool x9, .slice a0 n0 c0, .slice a1 n1 c1] 31) (.cells #[.int .i64 x0, .int .i64 x1, .int .i64 x2, .int .i64 x3, .int .i64 x4, .int .i64 x5, .int .i64 x6, .bool x7, .int .i64 x8, .bool x9, .slice b0 n0 d0, .slice b1 n1 d1] 31))
  have fc0 : ((w.alloc (.cells #[.int .i64 x0, .int .i64 x1, .int .i64 x2, .int .i64 x3, .int .i64 x4, .int .i64 x5, .int .i64 x6, .bool x7, .int .i64 x8, .bool x9, .slice a0 n0 c0, .slice a1 n1 c1] 31)).alloc (.cells #[.int .i64 x0, .int .i64 x1, .int .i64 x2, .int .i64 x3, .int .i64 x4, .int .i64 x5, .int .i64 x6, .bool x7, .int .i64 x8, .bool x9, .slice b0 n0 d0, .slice b1 n1 d1] 31)).cell? ⟨w.heap.size, 0, none⟩ = some (.int .i64 x0) := cell_of_row _ _ 0 _ _ _ HW.out.2.1
  have fc1 : ((w.alloc (.cells #[.int .i64 x0, .int .i64 x1, .int .i64 x2, .int .i64 x3, .int .i64 x4, .int .i64 x5, .int .i64 x6, .bool x7, .int .i64 x8, .bool x9, .slice a0 n0 c0, .slice a1 n1 c1] 31)).alloc (.cells #[.int .i64 x0, .int .i64 x1, .int .i64 x2, .int .i64 x3, .int .i64 x4, .int .i64 x5, .int .i64 x6, .bool x7, .int .i64 x8, .bool x9, .slice b0 n0 d0, .slice b1 n1 d1] 31)).cell? ⟨w.heap.size, 1, none⟩ = some (.int .i64 x1) := cell_of_row _ _ 1 _ _ _ HW.out.2.1
  have fc2 : ((w.alloc (.cells #[.int .i64 x0, .int .i64 x1, .int .i64 x2, .int .i64 x3, .int .i64 x4, .int .i64 x5, .int .i64 x6, .bool x7, .int .i64 x8, .bool x9, .slice a0 n0 c0, .slice a1 n1 c1] 31)).alloc (.cells #[.int .i64 x0, .int .i64 x1, .int .i64 x2, .int .i64 x3, .int .i64 x4, .int .i64 x5, .int .i64 x6, .bool x7, .int .i64 x8, .bool x9, .slice b0 n0 d0, .slice b1 n1 d1] 31)).cell? ⟨w.heap.size, 2, none⟩ = some (.int .i64 x2) := cell_of_row _ _ 2 _ _ _ HW.out.2.1
  have fc3 : ((w.alloc (.cells #[.int .i64 x0, .int .i64 x1, .int .i64 x2, .int .i64 x3, .int .i64 x4, .int .i64 x5, .int .i64 x6, .bool x7, .int .i64 x8, .bool x9, .slice a0 n0 c0, .slice a1 n1 c1] 31)).alloc (.cells #[.int .i64 x0, .int .i64 x1, .int .i64 x2, .int .i64 x3, .int .i64 x4, .int .i64 x5, .int .i64 x6, .bool x7, .int .i64 x8, .bool x9, .slice b0 n0 d0, .slice b1 n1 d1] 31)).cell? ⟨w.heap.size, 3, none⟩ = some (.int .i64 x3) := cell_of_row _ _ 3 _ _ _ HW.out.2.1
  have fc4 : ((w.alloc (.cells #[.int .i64 x0, .int .i64 x1, .int .i64 x2, .int .i64 x3, .int .i64 x4, .int .i64 x5, .int .i64 x6, .bool x7, .int .i64 x8, .bool x9, .slice a0 n0 c0, .slice a1 n1 c1] 31)).alloc (.cells #[.int .i64 x0, .int .i64 x1, .int .i64 x2, .int .i64 x3, .int .i64 x4, .int .i64 x5, .int .i64 x6, .bool x7, .int .i64 x8, .bool x9, .slice b0 n0 d0, .slice b1 n1 d1] 31)).cell? ⟨w.heap.size, 4, none⟩ = some (.int .i64 x4) := cell_of_row _ _ 4 _ _ _ HW.out.2.1
  have fc5 : ((w.alloc (.cells #[.int .i64 x0, .int .i64 x1, .int .i64 x2, .int .i64 x3, .int .i64 x4, .int .i64 x5, .int .i64 x6, .bool x7, .int .i64 x8, .bool x9, .slice a0 n0 c0, .slice a1 n1 c1] 31)).alloc (.cells #[.int .i64 x0, .int .i64 x1, .int .i64 x2, .int .i64 x3, .int .i64 x4, .int .i64 x5, .int .i64 x6, .bool x7, .int .i64 x8, .bool x9, .slice b0 n0 d0, .slice b1 n1 d1] 31)).cell? ⟨w.heap.size, 5, none⟩ = some (.int .i64 x5) := cell_of_row _ _ 5 _ _ _ HW.out.2.1
  have fc6 : ((w.alloc (.cells #[.int .i64 x0, .int .i64 x1, .int .i64 x2, .int .i64 x3, .int .i64 x4, .int .i64 x5, .int .i64 x6, .bool x7, .int .i64 x8, .bool x9, .slice a0 n0 c0, .slice a1 n1 c1] 31)).alloc (.cells #[.int .i64 x0, .int .i64 x1, .int .i64 x2, .int .i64 x3, .int .i64 x4, .int .i64 x5, .int .i64 x6, .bool x7, .int .i64 x8, .bool x9, .slice b0 n0 d0, .slice b1 n1 d1] 31)).cell? ⟨w.heap.size, 6, none⟩ = some (.int .i64 x6) := cell_of_row _ _ 6 _ _ _ HW.out.2.1
  have fc7 : ((w.alloc (.cells #[.int .i64 x0, .int .i64 x1, .int .i64 x2, .int .i64 x3, .int .i64 x4, .int .i64 x5, .int .i64 x6, .bool x7, .int .i64 x8, .bool x9, .slice a0 n0 c0, .slice a1 n1 c1] 31)).alloc (.cells #[.int .i64 x0, .int .i64 x1, .int .i64 x2, .int .i64 x3, .int .i64 x4, .int .i64 x5, .int .i64 x6, .bool x7, .int .i64 x8, .bool x9, .slice b0 n0 d0, .slice b1 n1 d1] 31)).cell? ⟨w.heap.size, 7, none⟩ = some (.bool x7) := cell_of_row _ _ 7 _ _ _ HW.out.2.1
  have fc8 : ((w.alloc (.cells #[.int .i64 x0, .int .i64 x1, .int .i64 x2, .int .i64 x3, .int .i64 x4, .int .i64 x5, .int .i64 x6, .bool x7, .int .i64 x8, .bool x9, .slice a0 n0 c0, .slice a1 n1 c1] 31)).alloc (.cells #[.int .i64 x0, .int .i64 x1, .int .i64 x2, .int .i64 x3, .int .i64 x4, .int .i64 x5, .int .i64 x6, .bool x7, .int .i64 x8, .bool x9, .slice b0 n0 d0, .slice b1 n1 d1] 31)).cell? ⟨w.heap.size, 8, none⟩ = some (.int .i64 x8) := cell_of_row _ _ 8 _ _ _ HW.out.2.1
  have fc9 : ((w.alloc (.cells #[.int .i64 x0, .int .i64 x1, .int .i64 x2, .int .i64 x3, .int .i64 x4, .int .i64 x5, .int .i64 x6, .bool x7, .int .i64 x8, .bool x9, .slice a0 n0 c0, .slice a1 n1 c1] 31)).alloc (.cells #[.int .i64 x0, .int .i64 x1, .int .i64 x2, .int .i64 x3, .int .i64 x4, .int .i64 x5, .int .i64 x6, .bool x7, .int .i64 x8, .bool x9, .slice b0 n0 d0, .slice b1 n1 d1] 31)).cell? ⟨w.heap.size, 9, none⟩ = some (.bool x9) := cell_of_row _ _ 9 _ _ _ HW.out.2.1
  have fc10 : ((w.alloc (.cells #[.int .i64 x0, .int .i64 x1, .int .i64 x2, .int .i64 x3, .int .i64 x4, .int .i64 x5, .int .i64 x6, .bool x7, .int .i64 x8, .bool x9, .slice a0 n0 c0, .slice a1 n1 c1] 31)).alloc (.cells #[.int .i64 x0, .int .i64 x1, .int .i64 x2, .int .i64 x3, .int .i64 x4, .int .i64 x5, .int .i64 x6, .bool x7, .int .i64 x8, .bool x9, .slice b0 n0 d0, .slice b1 n1 d1] 31)).cell? ⟨w.heap.size, 10, none⟩ = some (.slice a0 n0 c0) := cell_of_row _ _ 10 _ _ _ HW.out.2.1
  have fc11 : ((w.alloc (.cells #[.int .i64 x0, .int .i64 x1, .int .i64 x2, .int .i64 x3, .int .i64 x4, .int .i64 x5, .int .i64 x6, .bool x7, .int .i64 x8, .bool x9, .slice a0 n0 c0, .slice a1 n1 c1] 31)).alloc (.cells #[.int .i64 x0, .int .i64 x1, .int .i64 x2, .int .i64 x3, .int .i64 x4, .int .i64 x5, .int .i64 x6, .bool x7, .int .i64 x8, .bool x9, .slice b0 n0 d0, .slice b1 n1 d1] 31)).cell? ⟨w.heap.size, 11, none⟩ = some (.slice a1 n1 c1) := cell_of_row _ _ 11 _ _ _ HW.out.2.1
  have fe0 : ((w.alloc (.cells #[.int .i64 x0, .int .i64 x1, .int .i64 x2, .int .i64 x3, .int .i64 x4, .int .i64 x5, .int .i64 x6, .bool x7, .int .i64 x8, .bool x9, .slice a0 n0 c0, .slice a1 n1 c1] 31)).alloc (.cells #[.int .i64 x0, .int .i64 x1, .int .i64 x2, .int .i64 x3, .int .i64 x4, .int .i64 x5, .int .i64 x6, .bool x7, .int .i64 x8, .bool x9, .slice b0 n0 d0, .slice b1 n1 d1] 31)).cell? ⟨w.heap.size + 1, 0, none⟩ = some (.int .i64 x0) := cell_of_row _ _ 0 _ _ _ HW.out.2.2
  have fe1 : ((w.alloc (.cells #[.int .i64 x0, .int .i64 x1, .int .i64 x2, .int .i64 x3, .int .i64 x4, .int .i64 x5, .int .i64 x6, .bool x7, .int .i64 x8, .bool x9, .slice a0 n0 c0, .slice a1 n1 c1] 31)).alloc (.cells #[.int .i64 x0, .int .i64 x1, .int .i64 x2, .int .i64 x3, .int .i64 x4, .int .i64 x5, .int .i64 x6, .bool x7, .int .i64 x8, .bool x9, .slice b0 n0 d0, .slice b1 n1 d1] 31)).cell? ⟨w.heap.size + 1, 1, none⟩ = some (.int .i64 x1) := cell_of_row _ _ 1 _ _ _ HW.out.2.2
  have fe2 : ((w.alloc (.cells #[.int .i64 x0, .int .i64 x1, .int .i64 x2, .int .i64 x3, .int .i64 x4, .int .i64 x5, .int .i64 x6, .bool x7, .int .i64 x8, .bool x9, .slice a0 n0 c0, .slice a1 n1 c1] 31)).alloc (.cells #[.int .i64 x0, .int .i64 x1, .int .i64 x2, .int .i64 x3, .int .i64 x4, .int .i64 x5, .int .i64 x6, .bool x7, .int .i64 x8, .bool x9, .slice b0 n0 d0, .slice b1 n1 d1] 31)).cell? ⟨w.heap.size + 1, 2, none⟩ = some (.int .i64 x2) := cell_of_row _ _ 2 _ _ _ HW.out.2.2
  have fe3 : ((w.alloc (.cells #[.int .i64 x0, .int .i64 x1, .int .i64 x2, .int .i64 x3, .int .i64 x4, .int .i64 x5, .int .i64 x6, .bool x7, .int .i64 x8, .bool x9, .slice a0 n0 c0, .slice a1 n1 c1] 31)).alloc (.cells #[.int .i64 x0, .int .i64 x1, .int .i64 x2, .int .i64 x3, .int .i64 x4, .int .i64 x5, .int .i64 x6, .bool x7, .int .i64 x8, .bool x9, .slice b0 n0 d0, .slice b1 n1 d1] 31)).cell? ⟨w.heap.size + 1, 3, none⟩ = some (.int .i64 x3) := cell_of_row _ _ 3 _ _ _ HW.out.2.2
  have fe4 : ((w.alloc (.cells #[.int .i64 x0, .int .i64 x1, .int .i64 x2, .int .i64 x3, .int .i64 x4, .int .i64 x5, .int .i64 x6, .bool x7, .int .i64 x8, .bool x9, .slice a0 n0 c0, .slice a1 n1 c1] 31)).alloc (.cells #[.int .i64 x0, .int .i64 x1, .int .i64 x2, .int .i64 x3, .int .i64 x4, .int .i64 x5, .int .i64 x6, .bool x7, .int .i64 x8, .bool x9, .slice b0 n0 d0, .slice b1 n1 d1] 31)).cell? ⟨w.heap.size + 1, 4, none⟩ = some (.int .i64 x4) := cell_of_row _ _ 4 _ _ _ HW.out.2.2
  have fe5 : ((w.alloc (.cells #[.int .i64 x0, .int .i64 x1, .int .i64 x2, .int .i64 x3, .int .i64 x4, .int .i64 x5, .int .i64 x6, .bool x7, .int .i64 x8, .bool x9, .slice a0 n0 c0, .slice a1 n1 c1] 31)).alloc (.cells #[.int .i64 x0, .int .i64 x1, .int .i64 x2, .int .i64 x3, .int .i64 x4, .int .i64 x5, .int .i64 x6, .bool x7, .int .i64 x8, .bool x9, .slice b0 n0 d0, .slice b1 n1 d1] 31)).cell? ⟨w.heap.size + 1, 5, none⟩ = some (.int .i64 x5) := cell_of_row _ _ 5 _ _ _ HW.out.2.2
  have fe6 : ((w.alloc (.cells #[.int .i64 x0, .int .i64 x1, .int .i64 x2, .int .i64 x3, .int .i64 x4, .int .i64 x5, .int .i64 x6, .bool x7, .int .i64 x8, .bool x9, .slice a0 n0 c0, .slice a1 n1 c1] 31)).alloc (.cells #[.int .i64 x0, .int .i64 x1, .int .i64 x2, .int .i64 x3, .int .i64 x4, .int .i64 x5, .int .i64 x6, .bool x7, .int .i64 x8, .bool x9, .slice b0 n0 d0, .slice b1 n1 d1] 31)).cell? ⟨w.heap.size + 1, 6, none⟩ = some (.int .i64 x6) := cell_of_row _ _ 6 _ _ _ HW.out.2.2
  have fe7 : ((w.alloc (.cells #[.int .i64 x0, .int .i64 x1, .int .i64 x2, .int .i64 x3, .int .i64 x4, .int .i64 x5, .int .i64 x6, .bool x7, .int .i64 x8, .bool x9, .slice a0 n0 c0, .slice a1 n1 c1] 31)).alloc (.cells #[.int .i64 x0, .int .i64 x1, .int .i64 x2, .int .i64 x3, .int .i64 x4, .int .i64 x5, .int .i64 x6, .bool x7, .int .i64 x8, .bool x9, .slice b0 n0 d0, .slice b1 n1 d1] 31)).cell? ⟨w.heap.size + 1, 7, none⟩ = some (.bool x7) := cell_of_row _ _ 7 _ _ _ HW.out.2.2
  have fe8 : ((w.alloc (.cells #[.int .i64 x0, .int .i64 x1, .int .i64 x2, .int .i64 x3, .int .i64 x4, .int .i64 x5, .int .i64 x6, .bool x7, .int .i64 x8, .bool x9, .slice a0 n0 c0, .slice a1 n1 c1] 31)).alloc (.cells #[.int .i64 x0, .int .i64 x1, .int .i64 x2, .int .i64 x3, .int .i64 x4, .int .i64 x5, .int .i64 x6, .bool x7, .int .i64 x8, .bool x9, .slice b0 n0 d0, .slice b1 n1 d1] 31)).cell? ⟨w.heap.size + 1, 8, none⟩ = some (.int .i64 x8) := cell_of_row _ _ 8 _ _ _ HW.out.2.2
  have fe9 : ((w.alloc (.cells #[.int .i64 x0, .int .i64 x1, .int .i64 x2, .int .i64 x3, .int .i64 x4, .int .i64 x5, .int .i64 x6, .bool x7, .int .i64 x8, .bool x9, .slice a0 n0 c0, .slice a1 n1 c1] 31)).alloc (.cells #[.int .i64 x0, .int .i64 x1, .int .i64 x2, .int .i64 x3, .int .i64 x4, .int .i64 x5, .int .i64 x6, .bool x7, .int .i64 x8, .bool x9, .slice b0 n0 d0, .slice b1 n1 d1] 31)).cell? ⟨w.heap.size + 1, 9, none⟩ = some (.bool x9) := cell_of_row _ _ 9 _ _ _ HW.out.2.2
  have fe10 : ((w.alloc (.cells #[.int .i64 x0, .int .i64 x1, .int .i64 x2, .int .i64 x3, .int .i64 x4, .int .i64 x5, .int .i64 x6, .bool x7, .int .i64 x8, .bool x9, .slice a0 n0 c0, .slice a1 n1 c1] 31)).alloc (.cells #[.int .i64 x0, .int .i64 x1, .int .i64 x2, .int .i64 x3, .int .i64 x4, .int .i64 x5, .int .i64 x6, .bool x7, .int .i64 x8, .bool x9, .slice b0 n0 d0, .slice b1 n1 d1] 31)).cell? ⟨w.heap.size + 1, 10, none⟩ = some (.slice b0 n0 d0) := cell_of_row _ _ 10 _ _ _ HW.out.2.2
  have fe11 : ((w.alloc (.cells #[.int .i64 x0, .int .i64 x1, .int .i64 x2, .int .i64 x3, .int .i64 x4, .int .i64 x5, .int .i64 x6, .bool x7, .int .i64 x8, .bool x9, .slice a0 n0 c0, .slice a1 n1 c1] 31)).alloc (.cells #[.int .i64 x0, .int .i64 x1, .int .i64 x2, .int .i64 x3, .int .i64 x4, .int .i64 x5, .int .i64 x6, .bool x7, .int .i64 x8, .bool x9, .slice b0 n0 d0, .slice b1 n1 d1] 31)).cell? ⟨w.heap.size + 1, 11, none⟩ = some (.slice b1 n1 d1) := cell_of_row _ _ 11 _ _ _ HW.out.2.2
  go_enter Tryd.func11, Tryd.ntmps11
  go_wp2_with fail
  generalize (w.alloc (.cells #[.int .i64 x0, .int .i64 x1, .int .i64 x2, .int .i64 x3, .int .i64 x4, .int .i64 x5, .int .i64 x6, .bool x7, .int .i64 x8, .bool x9, .slice a0 n0 c0, .slice a1 n1 c1] 31)).alloc (.cells #[.int .i64 x0, .int .i64 x1, .int .i64 x2, .int .i64 x3, .int .i64 x4, .int .i64 x5, .int .i64 x6, .bool x7, .int .i64 x8, .bool x9, .slice b0 n0 d0, .slice b1 n1 d1] 31) = W at *
  clear fc0 fe0 fc1 fe1 fc2 fe2 fc3 fe3 fc4 fe4 fc5 fe5 fc6 fe6 fc7 fe7 fc8 fe8 fc9 fe9 fc10 fe10 fc11 fe11
  refine (HF0.out _ HW.out.1.1).mono ?_
  rintro e w1 ⟨rfl, hb⟩
  replace HW := hide (HW.out.next hb)
  clear hb
  have fc0 : (w1).cell? ⟨w.heap.size, 0, none⟩ = some (.int .i64 x0) := cell_of_row _ _ 0 _ _ _ HW.out.2.1
  have fc1 : (w1).cell? ⟨w.heap.size, 1, none⟩ = some (.int .i64 x1) := cell_of_row _ _ 1 _ _ _ HW.out.2.1
  have fc2 : (w1).cell? ⟨w.heap.size, 2, none⟩ = some (.int .i64 x2) := cell_of_row _ _ 2 _ _ _ HW.out.2.1
  have fc3 : (w1).cell? ⟨w.heap.size, 3, none⟩ = some (.int .i64 x3) := cell_of_row _ _ 3 _ _ _ HW.out.2.1
  have fc4 : (w1).cell? ⟨w.heap.size, 4, none⟩ = some (.int .i64 x4) := cell_of_row _ _ 4 _ _ _ HW.out.2.1
  have fc5 : (w1).cell? ⟨w.heap.size, 5, none⟩ = some (.int .i64 x5) := cell_of_row _ _ 5 _ _ _ HW.out.2.1
  have fc6 : (w1).cell? ⟨w.heap.size, 6, none⟩ = some (.int .i64 x6) := cell_of_row _ _ 6 _ _ _ HW.out.2.1
  have fc7 : (w1).cell? ⟨w.heap.size, 7, none⟩ = some (.bool x7) := cell_of_row _ _ 7 _ _ _ HW.out.2.1
  have fc8 : (w1).cell? ⟨w.heap.size, 8, none⟩ = some (.int .i64 x8) := cell_of_row _ _ 8 _ _ _ HW.out.2.1
  have fc9 : (w1).cell? ⟨w.heap.size, 9, none⟩ = some (.bool x9) := cell_of_row _ _ 9 _ _ _ HW.out.2.1
  have fc10 : (w1).cell? ⟨w.heap.size, 10, none⟩ = some (.slice a0 n0 c0) := cell_of_row _ _ 10 _ _ _ HW.out.2.1
  have fc11 : (w1).cell? ⟨w.heap.size, 11, none⟩ = some (.slice a1 n1 c1) := cell_of_row _ _ 11 _ _ _ HW.out.2.1
  have fe0 : (w1).cell? ⟨w.heap.size + 1, 0, none⟩ = some (.int .i64 x0) := cell_of_row _ _ 0 _ _ _ HW.out.2.2
  have fe1 : (w1).cell? ⟨w.heap.size + 1, 1, none⟩ = some (.int .i64 x1) := cell_of_row _ _ 1 _ _ _ HW.out.2.2
  have fe2 : (w1).cell? ⟨w.heap.size + 1, 2, none⟩ = some (.int .i64 x2) := cell_of_row _ _ 2 _ _ _ HW.out.2.2
  have fe3 : (w1).cell? ⟨w.heap.size + 1, 3, none⟩ = some (.int .i64 x3) := cell_of_row _ _ 3 _ _ _ HW.out.2.2
  have fe4 : (w1).cell? ⟨w.heap.size + 1, 4, none⟩ = some (.int .i64 x4) := cell_of_row _ _ 4 _ _ _ HW.out.2.2
  have fe5 : (w1).cell? ⟨w.heap.size + 1, 5, none⟩ = some (.int .i64 x5) := cell_of_row _ _ 5 _ _ _ HW.out.2.2
  have fe6 : (w1).cell? ⟨w.heap.size + 1, 6, none⟩ = some (.int .i64 x6) := cell_of_row _ _ 6 _ _ _ HW.out.2.2
  have fe7 : (w1).cell? ⟨w.heap.size + 1, 7, none⟩ = some (.bool x7) := cell_of_row _ _ 7 _ _ _ HW.out.2.2
  have fe8 : (w1).cell? ⟨w.heap.size + 1, 8, none⟩ = some (.int .i64 x8) := cell_of_row _ _ 8 _ _ _ HW.out.2.2
  have fe9 : (w1).cell? ⟨w.heap.size + 1, 9, none⟩ = some (.bool x9) := cell_of_row _ _ 9 _ _ _ HW.out.2.2
  have fe10 : (w1).cell? ⟨w.heap.size + 1, 10, none⟩ = some (.slice b0 n0 d0) := cell_of_row _ _ 10 _ _ _ HW.out.2.2
  have fe11 : (w1).cell? ⟨w.heap.size + 1, 11, none⟩ = some (.slice b1 n1 d1) := cell_of_row _ _ 11 _ _ _ HW.out.2.2
  go_wp2_with fail
  clear fc0 fe0 fc1 fe1 fc2 fe2 fc3 fe3 fc4 fe4 fc5 fe5 fc6 fe6 fc7 fe7 fc8 fe8 fc9 fe9 fc10 fe10 fc11 fe11
  refine (HF1.out _ HW.out.1.1).mono ?_
  rintro e w2 ⟨rfl, hb⟩
  replace HW := hide (HW.out.next hb)
  clear hb
  have fc0 : (w2).cell? ⟨w.heap.size, 0, none⟩ = some (.int .i64 x0) := cell_of_row _ _ 0 _ _ _ HW.out.2.1
  have fc1 : (w2).cell? ⟨w.heap.size, 1, none⟩ = some (.int .i64 x1) := cell_of_row _ _ 1 _ _ _ HW.out.2.1
  have fc2 : (w2).cell? ⟨w.heap.size, 2, none⟩ = some (.int .i64 x2) := cell_of_row _ _ 2 _ _ _ HW.out.2.1
  have fc3 : (w2).cell? ⟨w.heap.size, 3, none⟩ = some (.int .i64 x3) := cell_of_row _ _ 3 _ _ _ HW.out.2.1
  have fc4 : (w2).cell? ⟨w.heap.size, 4, none⟩ = some (.int .i64 x4) := cell_of_row _ _ 4 _ _ _ HW.out.2.1
  have fc5 : (w2).cell? ⟨w.heap.size, 5, none⟩ = some (.int .i64 x5) := cell_of_row _ _ 5 _ _ _ HW.out.2.1
  have fc6 : (w2).cell? ⟨w.heap.size, 6, none⟩ = some (.int .i64 x6) := cell_of_row _ _ 6 _ _ _ HW.out.2.1
  have fc7 : (w2).cell? ⟨w.heap.size, 7, none⟩ = some (.bool x7) := cell_of_row _ _ 7 _ _ _ HW.out.2.1
  have fc8 : (w2).cell? ⟨w.heap.size, 8, none⟩ = some (.int .i64 x8) := cell_of_row _ _ 8 _ _ _ HW.out.2.1
  have fc9 : (w2).cell? ⟨w.heap.size, 9, none⟩ = some (.bool x9) := cell_of_row _ _ 9 _ _ _ HW.out.2.1
  have fc10 : (w2).cell? ⟨w.heap.size, 10, none⟩ = some (.slice a0 n0 c0) := cell_of_row _ _ 10 _ _ _ HW.out.2.1
  have fc11 : (w2).cell? ⟨w.heap.size, 11, none⟩ = some (.slice a1 n1 c1) := cell_of_row _ _ 11 _ _ _ HW.out.2.1
  have fe0 : (w2).cell? ⟨w.heap.size + 1, 0, none⟩ = some (.int .i64 x0) := cell_of_row _ _ 0 _ _ _ HW.out.2.2
  have fe1 : (w2).cell? ⟨w.heap.size + 1, 1, none⟩ = some (.int .i64 x1) := cell_of_row _ _ 1 _ _ _ HW.out.2.2
  have fe2 : (w2).cell? ⟨w.heap.size + 1, 2, none⟩ = some (.int .i64 x2) := cell_of_row _ _ 2 _ _ _ HW.out.2.2
  have fe3 : (w2).cell? ⟨w.heap.size + 1, 3, none⟩ = some (.int .i64 x3) := cell_of_row _ _ 3 _ _ _ HW.out.2.2
  have fe4 : (w2).cell? ⟨w.heap.size + 1, 4, none⟩ = some (.int .i64 x4) := cell_of_row _ _ 4 _ _ _ HW.out.2.2
  have fe5 : (w2).cell? ⟨w.heap.size + 1, 5, none⟩ = some (.int .i64 x5) := cell_of_row _ _ 5 _ _ _ HW.out.2.2
  have fe6 : (w2).cell? ⟨w.heap.size + 1, 6, none⟩ = some (.int .i64 x6) := cell_of_row _ _ 6 _ _ _ HW.out.2.2
  have fe7 : (w2).cell? ⟨w.heap.size + 1, 7, none⟩ = some (.bool x7) := cell_of_row _ _ 7 _ _ _ HW.out.2.2
  have fe8 : (w2).cell? ⟨w.heap.size + 1, 8, none⟩ = some (.int .i64 x8) := cell_of_row _ _ 8 _ _ _ HW.out.2.2
  have fe9 : (w2).cell? ⟨w.heap.size + 1, 9, none⟩ = some (.bool x9) := cell_of_row _ _ 9 _ _ _ HW.out.2.2
  have fe10 : (w2).cell? ⟨w.heap.size + 1, 10, none⟩ = some (.slice b0 n0 d0) := cell_of_row _ _ 10 _ _ _ HW.out.2.2
  have fe11 : (w2).cell? ⟨w.heap.size + 1, 11, none⟩ = some (.slice b1 n1 d1) := cell_of_row _ _ 11 _ _ _ HW.out.2.2
  go_wp2_with fail
  go_ret
  exact ⟨rfl, HW.out.1.1⟩
set_option maxHeartbeats 4000000 in
theorem markSegment_d (w : World) (x0 : Int) (x1 : Int) (x2 : Int) (x3 : Int) (x4 : Int) (x5 : Int) (x6 : Int) (x7 : Bool) (x8 : Int) (x9 : Bool) (a0 : Option Addr) (n0 c0 : Nat) (a1 : Option Addr) (n1 c1 : Nat) (d0 m0 d1 m1 : D) (K0 K1 K2 : Int) (B : Nat) (bs : List Nat) (hf0 : ∀ (W : World) (f : List Nat), Holds W B d0 (.slice a0 n0 c0) f → f.Nodup → Calls Tryd.prog 50 #[.slice a0 n0 c0, .int .i64 K0] W fun e w' => e = .returned (.int .i64 K1) ∧ Holds w' B m0 (.slice a0 n0 c0) f ∧ Only f W w') (hf1 : ∀ (W : World) (f : List Nat), Holds W B d1 (.slice a1 n1 c1) f → f.Nodup → Calls Tryd.prog 16 #[.slice a1 n1 c1, .int .i64 K1] W fun e w' => e = .returned (.int .i64 K2) ∧ Holds w' B m1 (.slice a1 n1 c1) f ∧ Only f W w') (h : HoldsL w B [d0, d1] [.slice a0 n0 c0, .slice a1 n1 c1] bs) (hnd : bs.Nodup) :
    Calls Tryd.prog 17 #[.agg #[.int .i64 x0, .int .i64 x1, .int .i64 x2, .int .i64 x3, .int .i64 x4, .int .i64 x5, .int .i64 x6, .bool x7, .int .i64 x8, .bool x9, .slice a0 n0 c0, .slice a1 n1 c1], .int .i64 K0] w fun e w' => e = .returned (.int .i64 K2) ∧ HoldsL w' B [m0, m1] [.slice a0 n0 c0, .slice a1 n1 c1] bs ∧ Only bs w w' := by
  obtain ⟨_, _, f0, g0, e0, rfl, h0, r0⟩ := holdsL_cons.1 h
  cases e0
  obtain ⟨_, _, f1, g1, e1, rfl, h1, r1⟩ := holdsL_cons.1 r0
  cases e1
  obtain ⟨_, rfl⟩ := holdsL_nil.1 r1
  have HF0 := hide hf0
  clear hf0
  have HF1 := hide hf1
  clear hf1
  have hal := (Below.refl w.heap.size w).alloc (Nat.le_refl _) (.cells #[.int .i64 x0, .int .i64 x1, .int .i64 x2, .int .i64 x3, .int .i64 x4, .int .i64 x5, .int .i64 x6, .bool x7, .int .i64 x8, .bool x9, .slice a0 n0 c0, .slice a1 n1 c1] 31)
  have HR := hide (Only.of_below (S := f0 ++ (f1 ++ [])) hal)
  have HX := hide (Keep.new w (.cells #[.int .i64 x0, .int .i64 x1, .int .i64 x2, .int .i64 x3, .int .i64 x4, .int .i64 x5, .int .i64 x6, .bool x7, .int .i64 x8, .bool x9, .slice a0 n0 c0, .slice a1 n1 c1] 31))
  have HD0 := hide (Keep.data (holdsL_one h0))
  have HL0 := hide (fun b hb => (Holds.lt _ _ _ h0 b hb).2)
  have HD1 := hide (Keep.data (holdsL_one h1))
  have HL1 := hide (fun b hb => (Holds.lt _ _ _ h1 b hb).2)
  replace HD0 := hide (HD0.out.next hal)
  replace HD1 := hide (HD1.out.next hal)
  have HN := hide hnd
  clear hal h hnd h0 r0 h1 r1
  have fc0 : (w.alloc (.cells #[.int .i64 x0, .int .i64 x1, .int .i64 x2, .int .i64 x3, .int .i64 x4, .int .i64 x5, .int .i64 x6, .bool x7, .int .i64 x8, .bool x9, .slice a0 n0 c0, .slice a1 n1 c1] 31)).cell? ⟨w.heap.size, 0, none⟩ = some (.int .i64 x0) := cell_of_row _ _ 0 _ _ _ HX.out.here
  have fc1 : (w.alloc (.cells #[.int .i64 x0, .int .i64 x1, .int .i64 x2, .int .i64 x3, .int .i64 x4, .int .i64 x5, .int .i64 x6, .bool x7, .int .i64 x8, .bool x9, .slice a0 n0 c0, .slice a1 n1 c1] 31)).cell? ⟨w.heap.size, 1, none⟩ = some (.int .i64 x1) := cell_of_row _ _ 1 _ _ _ HX.out.here
  have fc2 : (w.alloc (.cells #[.int .i64 x0, .int .i64 x1, .int .i64 x2, .int .i64 x3, .int .i64 x4, .int .i64 x5, .int .i64 x6, .bool x7, .int .i64 x8, .bool x9, .slice a0 n0 c0, .slice a1 n1 c1] 31)).cell? ⟨w.heap.size, 2, none⟩ = some (.int .i64 x2) := cell_of_row _ _ 2 _ _ _ HX.out.here
  have fc3 : (w.alloc (.cells #[.int .i64 x0, .int .i64 x1, .int .i64 x2, .int .i64 x3, .int .i64 x4, .int .i64 x5, .int .i64 x6, .bool x7, .int .i64 x8, .bool x9, .slice a0 n0 c0, .slice a1 n1 c1] 31)).cell? ⟨w.heap.size, 3, none⟩ = some (.int .i64 x3) := cell_of_row _ _ 3 _ _ _ HX.out.here
  have fc4 : (w.alloc (.cells #[.int .i64 x0, .int .i64 x1, .int .i64 x2, .int .i64 x3, .int .i64 x4, .int .i64 x5, .int .i64 x6, .bool x7, .int .i64 x8, .bool x9, .slice a0 n0 c0, .slice a1 n1 c1] 31)).cell? ⟨w.heap.size, 4, none⟩ = some (.int .i64 x4) := cell_of_row _ _ 4 _ _ _ HX.out.here
  have fc5 : (w.alloc (.cells #[.int .i64 x0, .int .i64 x1, .int .i64 x2, .int .i64 x3, .int .i64 x4, .int .i64 x5, .int .i64 x6, .bool x7, .int .i64 x8, .bool x9, .slice a0 n0 c0, .slice a1 n1 c1] 31)).cell? ⟨w.heap.size, 5, none⟩ = some (.int .i64 x5) := cell_of_row _ _ 5 _ _ _ HX.out.here
  have fc6 : (w.alloc (.cells #[.int .i64 x0, .int .i64 x1, .int .i64 x2, .int .i64 x3, .int .i64 x4, .int .i64 x5, .int .i64 x6, .bool x7, .int .i64 x8, .bool x9, .slice a0 n0 c0, .slice a1 n1 c1] 31)).cell? ⟨w.heap.size, 6, none⟩ = some (.int .i64 x6) := cell_of_row _ _ 6 _ _ _ HX.out.here
  have fc7 : (w.alloc (.cells #[.int .i64 x0, .int .i64 x1, .int .i64 x2, .int .i64 x3, .int .i64 x4, .int .i64 x5, .int .i64 x6, .bool x7, .int .i64 x8, .bool x9, .slice a0 n0 c0, .slice a1 n1 c1] 31)).cell? ⟨w.heap.size, 7, none⟩ = some (.bool x7) := cell_of_row _ _ 7 _ _ _ HX.out.here
  have fc8 : (w.alloc (.cells #[.int .i64 x0, .int .i64 x1, .int .i64 x2, .int .i64 x3, .int .i64 x4, .int .i64 x5, .int .i64 x6, .bool x7, .int .i64 x8, .bool x9, .slice a0 n0 c0, .slice a1 n1 c1] 31)).cell? ⟨w.heap.size, 8, none⟩ = some (.int .i64 x8) := cell_of_row _ _ 8 _ _ _ HX.out.here
  have fc9 : (w.alloc (.cells #[.int .i64 x0, .int .i64 x1, .int .i64 x2, .int .i64 x3, .int .i64 x4, .int .i64 x5, .int .i64 x6, .bool x7, .int .i64 x8, .bool x9, .slice a0 n0 c0, .slice a1 n1 c1] 31)).cell? ⟨w.heap.size, 9, none⟩ = some (.bool x9) := cell_of_row _ _ 9 _ _ _ HX.out.here
  have fc10 : (w.alloc (.cells #[.int .i64 x0, .int .i64 x1, .int .i64 x2, .int .i64 x3, .int .i64 x4, .int .i64 x5, .int .i64 x6, .bool x7, .int .i64 x8, .bool x9, .slice a0 n0 c0, .slice a1 n1 c1] 31)).cell? ⟨w.heap.size, 10, none⟩ = some (.slice a0 n0 c0) := cell_of_row _ _ 10 _ _ _ HX.out.here
  have fc11 : (w.alloc (.cells #[.int .i64 x0, .int .i64 x1, .int .i64 x2, .int .i64 x3, .int .i64 x4, .int .i64 x5, .int .i64 x6, .bool x7, .int .i64 x8, .bool x9, .slice a0 n0 c0, .slice a1 n1 c1] 31)).cell? ⟨w.heap.size, 11, none⟩ = some (.slice a1 n1 c1) := cell_of_row _ _ 11 _ _ _ HX.out.here
  go_enter Tryd.func17, Tryd.ntmps17
  go_wp2_with fail
  generalize w.alloc (.cells #[.int .i64 x0, .int .i64 x1, .int .i64 x2, .int .i64 x3, .int .i64 x4, .int .i64 x5, .int .i64 x6, .bool x7, .int .i64 x8, .bool x9, .slice a0 n0 c0, .slice a1 n1 c1] 31) = W at *
  clear fc0 fc1 fc2 fc3 fc4 fc5 fc6 fc7 fc8 fc9 fc10 fc11
  obtain ⟨_, _, _, _, ee, eb, hh, hr⟩ := holdsL_cons.1 HD0.out.here
  cases ee
  obtain ⟨_, rfl⟩ := holdsL_nil.1 hr
  rw [List.append_nil, List.append_nil] at eb
  subst eb
  refine (HF0.out _ _ hh (nodup_left HN.out)).mono ?_
  rintro e w1 ⟨rfl, hm, hon⟩
  clear hh hr
  replace HX := hide (HX.out.only hon (fun b hb hc => by have h1 := List.mem_singleton.1 hb; have h2 := HL0.out b hc; omega))
  replace HD1 := hide (HD1.out.only hon (fun b hb hc => nodup_apart HN.out b (by simp only [List.append_nil] at hb; simp [hb]) hc))
  replace HD0 := hide (Keep.data (holdsL_one hm))
  replace HR := hide (HR.out.trans (hon.mono (fun b hb => by simp [hb])))
  clear hm hon
  have fc0 : (w1).cell? ⟨w.heap.size, 0, none⟩ = some (.int .i64 x0) := cell_of_row _ _ 0 _ _ _ HX.out.here
  have fc1 : (w1).cell? ⟨w.heap.size, 1, none⟩ = some (.int .i64 x1) := cell_of_row _ _ 1 _ _ _ HX.out.here
  have fc2 : (w1).cell? ⟨w.heap.size, 2, none⟩ = some (.int .i64 x2) := cell_of_row _ _ 2 _ _ _ HX.out.here
  have fc3 : (w1).cell? ⟨w.heap.size, 3, none⟩ = some (.int .i64 x3) := cell_of_row _ _ 3 _ _ _ HX.out.here
  have fc4 : (w1).cell? ⟨w.heap.size, 4, none⟩ = some (.int .i64 x4) := cell_of_row _ _ 4 _ _ _ HX.out.here
  have fc5 : (w1).cell? ⟨w.heap.size, 5, none⟩ = some (.int .i64 x5) := cell_of_row _ _ 5 _ _ _ HX.out.here
  have fc6 : (w1).cell? ⟨w.heap.size, 6, none⟩ = some (.int .i64 x6) := cell_of_row _ _ 6 _ _ _ HX.out.here
  have fc7 : (w1).cell? ⟨w.heap.size, 7, none⟩ = some (.bool x7) := cell_of_row _ _ 7 _ _ _ HX.out.here
  have fc8 : (w1).cell? ⟨w.heap.size, 8, none⟩ = some (.int .i64 x8) := cell_of_row _ _ 8 _ _ _ HX.out.here
  have fc9 : (w1).cell? ⟨w.heap.size, 9, none⟩ = some (.bool x9) := cell_of_row _ _ 9 _ _ _ HX.out.here
  have fc10 : (w1).cell? ⟨w.heap.size, 10, none⟩ = some (.slice a0 n0 c0) := cell_of_row _ _ 10 _ _ _ HX.out.here
  have fc11 : (w1).cell? ⟨w.heap.size, 11, none⟩ = some (.slice a1 n1 c1) := cell_of_row _ _ 11 _ _ _ HX.out.here
  go_wp2_with fail
  clear fc0 fc1 fc2 fc3 fc4 fc5 fc6 fc7 fc8 fc9 fc10 fc11
  obtain ⟨_, _, _, _, ee, eb, hh, hr⟩ := holdsL_cons.1 HD1.out.here
  cases ee
  obtain ⟨_, rfl⟩ := holdsL_nil.1 hr
  rw [List.append_nil, List.append_nil] at eb
  subst eb
  refine (HF1.out _ _ hh (nodup_left (nodup_right HN.out))).mono ?_
  rintro e w2 ⟨rfl, hm, hon⟩
  clear hh hr
  replace HX := hide (HX.out.only hon (fun b hb hc => by have h1 := List.mem_singleton.1 hb; have h2 := HL1.out b hc; omega))
  replace HD0 := hide (HD0.out.only hon (fun b hb hc => nodup_apart HN.out b (by simp [hc]) (by simpa using hb)))
  replace HD1 := hide (Keep.data (holdsL_one hm))
  replace HR := hide (HR.out.trans (hon.mono (fun b hb => by simp [hb])))
  clear hm hon
  have fc0 : (w2).cell? ⟨w.heap.size, 0, none⟩ = some (.int .i64 x0) := cell_of_row _ _ 0 _ _ _ HX.out.here
  have fc1 : (w2).cell? ⟨w.heap.size, 1, none⟩ = some (.int .i64 x1) := cell_of_row _ _ 1 _ _ _ HX.out.here
  have fc2 : (w2).cell? ⟨w.heap.size, 2, none⟩ = some (.int .i64 x2) := cell_of_row _ _ 2 _ _ _ HX.out.here
  have fc3 : (w2).cell? ⟨w.heap.size, 3, none⟩ = some (.int .i64 x3) := cell_of_row _ _ 3 _ _ _ HX.out.here
  have fc4 : (w2).cell? ⟨w.heap.size, 4, none⟩ = some (.int .i64 x4) := cell_of_row _ _ 4 _ _ _ HX.out.here
  have fc5 : (w2).cell? ⟨w.heap.size, 5, none⟩ = some (.int .i64 x5) := cell_of_row _ _ 5 _ _ _ HX.out.here
  have fc6 : (w2).cell? ⟨w.heap.size, 6, none⟩ = some (.int .i64 x6) := cell_of_row _ _ 6 _ _ _ HX.out.here
  have fc7 : (w2).cell? ⟨w.heap.size, 7, none⟩ = some (.bool x7) := cell_of_row _ _ 7 _ _ _ HX.out.here
  have fc8 : (w2).cell? ⟨w.heap.size, 8, none⟩ = some (.int .i64 x8) := cell_of_row _ _ 8 _ _ _ HX.out.here
  have fc9 : (w2).cell? ⟨w.heap.size, 9, none⟩ = some (.bool x9) := cell_of_row _ _ 9 _ _ _ HX.out.here
  have fc10 : (w2).cell? ⟨w.heap.size, 10, none⟩ = some (.slice a0 n0 c0) := cell_of_row _ _ 10 _ _ _ HX.out.here
  have fc11 : (w2).cell? ⟨w.heap.size, 11, none⟩ = some (.slice a1 n1 c1) := cell_of_row _ _ 11 _ _ _ HX.out.here
  go_wp2_with fail
  go_ret
  obtain ⟨_, _, _, _, ee, eb, hh0, hr⟩ := holdsL_cons.1 HD0.out.here
  cases ee
  obtain ⟨_, rfl⟩ := holdsL_nil.1 hr
  rw [List.append_nil, List.append_nil] at eb
  subst eb
  obtain ⟨_, _, _, _, ee, eb, hh1, hr⟩ := holdsL_cons.1 HD1.out.here
  cases ee
  obtain ⟨_, rfl⟩ := holdsL_nil.1 hr
  rw [List.append_nil, List.append_nil] at eb
  subst eb
  exact ⟨rfl, holdsL_cons.2 ⟨_, _, _, _, rfl, rfl, hh0, holdsL_cons.2 ⟨_, _, _, _, rfl, rfl, hh1, holdsL_nil.2 ⟨rfl, rfl⟩⟩⟩, HR.out⟩
set_option maxHeartbeats 4000000 in
theorem heldSegment_d (w : World) (x0 : Int) (x1 : Int) (x2 : Int) (x3 : Int) (x4 : Int) (x5 : Int) (x6 : Int) (x7 : Bool) (x8 : Int) (x9 : Bool) (a0 : Option Addr) (n0 c0 : Nat) (a1 : Option Addr) (n1 c1 : Nat) (m0 m1 : D) (K0 K1 K2 : Int) (B : Nat) (bs : List Nat) (hk1 : 0 ≤ K1) (hf0 : ∀ (W : World) (f : List Nat), Holds W B m0 (.slice a0 n0 c0) f → Calls Tryd.prog 51 #[.slice a0 n0 c0, .int .i64 K0] W fun e w' => e = .returned (.int .i64 K1) ∧ Below W.heap.size W w') (hk2 : 0 ≤ K2) (hf1 : ∀ (W : World) (f : List Nat), Holds W B m1 (.slice a1 n1 c1) f → Calls Tryd.prog 52 #[.slice a1 n1 c1, .int .i64 K1] W fun e w' => e = .returned (.int .i64 K2) ∧ Below W.heap.size W w') (h : HoldsL w B [m0, m1] [.slice a0 n0 c0, .slice a1 n1 c1] bs) :
    Calls Tryd.prog 18 #[.agg #[.int .i64 x0, .int .i64 x1, .int .i64 x2, .int .i64 x3, .int .i64 x4, .int .i64 x5, .int .i64 x6, .bool x7, .int .i64 x8, .bool x9, .slice a0 n0 c0, .slice a1 n1 c1], .int .i64 K0] w fun e w' => e = .returned (.int .i64 K2) ∧ Below w.heap.size w w' := by
  obtain ⟨_, _, f0, g0, e0, rfl, h0, r0⟩ := holdsL_cons.1 h
  cases e0
  obtain ⟨_, _, f1, g1, e1, rfl, h1, r1⟩ := holdsL_cons.1 r0
  cases e1
  have HF0 := hide hf0
  clear hf0
  have HF1 := hide hf1
  clear hf1
  have hal := (Below.refl w.heap.size w).alloc (Nat.le_refl _) (.cells #[.int .i64 x0, .int .i64 x1, .int .i64 x2, .int .i64 x3, .int .i64 x4, .int .i64 x5, .int .i64 x6, .bool x7, .int .i64 x8, .bool x9, .slice a0 n0 c0, .slice a1 n1 c1] 31)
  have HW := hide hal
  have HX := hide (Keep.new w (.cells #[.int .i64 x0, .int .i64 x1, .int .i64 x2, .int .i64 x3, .int .i64 x4, .int .i64 x5, .int .i64 x6, .bool x7, .int .i64 x8, .bool x9, .slice a0 n0 c0, .slice a1 n1 c1] 31))
  have HD0 := hide (Holds.next h0 hal)
  have HD1 := hide (Holds.next h1 hal)
  clear hal h h0 r0 h1 r1
  have fc0 : (w.alloc (.cells #[.int .i64 x0, .int .i64 x1, .int .i64 x2, .int .i64 x3, .int .i64 x4, .int .i64 x5, .int .i64 x6, .bool x7, .int .i64 x8, .bool x9, .slice a0 n0 c0, .slice a1 n1 c1] 31)).cell? ⟨w.heap.size, 0, none⟩ = some (.int .i64 x0) := cell_of_row _ _ 0 _ _ _ HX.out.here
  have fc1 : (w.alloc (.cells #[.int .i64 x0, .int .i64 x1, .int .i64 x2, .int .i64 x3, .int .i64 x4, .int .i64 x5, .int .i64 x6, .bool x7, .int .i64 x8, .bool x9, .slice a0 n0 c0, .slice a1 n1 c1] 31)).cell? ⟨w.heap.size, 1, none⟩ = some (.int .i64 x1) := cell_of_row _ _ 1 _ _ _ HX.out.here
  have fc2 : (w.alloc (.cells #[.int .i64 x0, .int .i64 x1, .int .i64 x2, .int .i64 x3, .int .i64 x4, .int .i64 x5, .int .i64 x6, .bool x7, .int .i64 x8, .bool x9, .slice a0 n0 c0, .slice a1 n1 c1] 31)).cell? ⟨w.heap.size, 2, none⟩ = some (.int .i64 x2) := cell_of_row _ _ 2 _ _ _ HX.out.here
  have fc3 : (w.alloc (.cells #[.int .i64 x0, .int .i64 x1, .int .i64 x2, .int .i64 x3, .int .i64 x4, .int .i64 x5, .int .i64 x6, .bool x7, .int .i64 x8, .bool x9, .slice a0 n0 c0, .slice a1 n1 c1] 31)).cell? ⟨w.heap.size, 3, none⟩ = some (.int .i64 x3) := cell_of_row _ _ 3 _ _ _ HX.out.here
  have fc4 : (w.alloc (.cells #[.int .i64 x0, .int .i64 x1, .int .i64 x2, .int .i64 x3, .int .i64 x4, .int .i64 x5, .int .i64 x6, .bool x7, .int .i64 x8, .bool x9, .slice a0 n0 c0, .slice a1 n1 c1] 31)).cell? ⟨w.heap.size, 4, none⟩ = some (.int .i64 x4) := cell_of_row _ _ 4 _ _ _ HX.out.here
  have fc5 : (w.alloc (.cells #[.int .i64 x0, .int .i64 x1, .int .i64 x2, .int .i64 x3, .int .i64 x4, .int .i64 x5, .int .i64 x6, .bool x7, .int .i64 x8, .bool x9, .slice a0 n0 c0, .slice a1 n1 c1] 31)).cell? ⟨w.heap.size, 5, none⟩ = some (.int .i64 x5) := cell_of_row _ _ 5 _ _ _ HX.out.here
  have fc6 : (w.alloc (.cells #[.int .i64 x0, .int .i64 x1, .int .i64 x2, .int .i64 x3, .int .i64 x4, .int .i64 x5, .int .i64 x6, .bool x7, .int .i64 x8, .bool x9, .slice a0 n0 c0, .slice a1 n1 c1] 31)).cell? ⟨w.heap.size, 6, none⟩ = some (.int .i64 x6) := cell_of_row _ _ 6 _ _ _ HX.out.here
  have fc7 : (w.alloc (.cells #[.int .i64 x0, .int .i64 x1, .int .i64 x2, .int .i64 x3, .int .i64 x4, .int .i64 x5, .int .i64 x6, .bool x7, .int .i64 x8, .bool x9, .slice a0 n0 c0, .slice a1 n1 c1] 31)).cell? ⟨w.heap.size, 7, none⟩ = some (.bool x7) := cell_of_row _ _ 7 _ _ _ HX.out.here
  have fc8 : (w.alloc (.cells #[.int .i64 x0, .int .i64 x1, .int .i64 x2, .int .i64 x3, .int .i64 x4, .int .i64 x5, .int .i64 x6, .bool x7, .int .i64 x8, .bool x9, .slice a0 n0 c0, .slice a1 n1 c1] 31)).cell? ⟨w.heap.size, 8, none⟩ = some (.int .i64 x8) := cell_of_row _ _ 8 _ _ _ HX.out.here
  have fc9 : (w.alloc (.cells #[.int .i64 x0, .int .i64 x1, .int .i64 x2, .int .i64 x3, .int .i64 x4, .int .i64 x5, .int .i64 x6, .bool x7, .int .i64 x8, .bool x9, .slice a0 n0 c0, .slice a1 n1 c1] 31)).cell? ⟨w.heap.size, 9, none⟩ = some (.bool x9) := cell_of_row _ _ 9 _ _ _ HX.out.here
  have fc10 : (w.alloc (.cells #[.int .i64 x0, .int .i64 x1, .int .i64 x2, .int .i64 x3, .int .i64 x4, .int .i64 x5, .int .i64 x6, .bool x7, .int .i64 x8, .bool x9, .slice a0 n0 c0, .slice a1 n1 c1] 31)).cell? ⟨w.heap.size, 10, none⟩ = some (.slice a0 n0 c0) := cell_of_row _ _ 10 _ _ _ HX.out.here
  have fc11 : (w.alloc (.cells #[.int .i64 x0, .int .i64 x1, .int .i64 x2, .int .i64 x3, .int .i64 x4, .int .i64 x5, .int .i64 x6, .bool x7, .int .i64 x8, .bool x9, .slice a0 n0 c0, .slice a1 n1 c1] 31)).cell? ⟨w.heap.size, 11, none⟩ = some (.slice a1 n1 c1) := cell_of_row _ _ 11 _ _ _ HX.out.here
  go_enter Tryd.func18, Tryd.ntmps18
  go_wp2_with fail
  generalize w.alloc (.cells #[.int .i64 x0, .int .i64 x1, .int .i64 x2, .int .i64 x3, .int .i64 x4, .int .i64 x5, .int .i64 x6, .bool x7, .int .i64 x8, .bool x9, .slice a0 n0 c0, .slice a1 n1 c1] 31) = W at *
  clear fc0 fc1 fc2 fc3 fc4 fc5 fc6 fc7 fc8 fc9 fc10 fc11
  refine (HF0.out _ _ HD0.out).mono ?_
  rintro e w1 ⟨rfl, hb⟩
  replace HX := hide (HX.out.next hb)
  replace HW := hide (below_on HW.out hb)
  replace HD0 := hide (Holds.next HD0.out hb)
  replace HD1 := hide (Holds.next HD1.out hb)
  clear hb
  have fc0 : (w1).cell? ⟨w.heap.size, 0, none⟩ = some (.int .i64 x0) := cell_of_row _ _ 0 _ _ _ HX.out.here
  have fc1 : (w1).cell? ⟨w.heap.size, 1, none⟩ = some (.int .i64 x1) := cell_of_row _ _ 1 _ _ _ HX.out.here
  have fc2 : (w1).cell? ⟨w.heap.size, 2, none⟩ = some (.int .i64 x2) := cell_of_row _ _ 2 _ _ _ HX.out.here
  have fc3 : (w1).cell? ⟨w.heap.size, 3, none⟩ = some (.int .i64 x3) := cell_of_row _ _ 3 _ _ _ HX.out.here
  have fc4 : (w1).cell? ⟨w.heap.size, 4, none⟩ = some (.int .i64 x4) := cell_of_row _ _ 4 _ _ _ HX.out.here
  have fc5 : (w1).cell? ⟨w.heap.size, 5, none⟩ = some (.int .i64 x5) := cell_of_row _ _ 5 _ _ _ HX.out.here
  have fc6 : (w1).cell? ⟨w.heap.size, 6, none⟩ = some (.int .i64 x6) := cell_of_row _ _ 6 _ _ _ HX.out.here
  have fc7 : (w1).cell? ⟨w.heap.size, 7, none⟩ = some (.bool x7) := cell_of_row _ _ 7 _ _ _ HX.out.here
  have fc8 : (w1).cell? ⟨w.heap.size, 8, none⟩ = some (.int .i64 x8) := cell_of_row _ _ 8 _ _ _ HX.out.here
  have fc9 : (w1).cell? ⟨w.heap.size, 9, none⟩ = some (.bool x9) := cell_of_row _ _ 9 _ _ _ HX.out.here
  have fc10 : (w1).cell? ⟨w.heap.size, 10, none⟩ = some (.slice a0 n0 c0) := cell_of_row _ _ 10 _ _ _ HX.out.here
  have fc11 : (w1).cell? ⟨w.heap.size, 11, none⟩ = some (.slice a1 n1 c1) := cell_of_row _ _ 11 _ _ _ HX.out.here
  go_wp2_with fail
  clear fc0 fc1 fc2 fc3 fc4 fc5 fc6 fc7 fc8 fc9 fc10 fc11
  refine (HF1.out _ _ HD1.out).mono ?_
  rintro e w2 ⟨rfl, hb⟩
  replace HX := hide (HX.out.next hb)
  replace HW := hide (below_on HW.out hb)
  replace HD0 := hide (Holds.next HD0.out hb)
  replace HD1 := hide (Holds.next HD1.out hb)
  clear hb
  have fc0 : (w2).cell? ⟨w.heap.size, 0, none⟩ = some (.int .i64 x0) := cell_of_row _ _ 0 _ _ _ HX.out.here
  have fc1 : (w2).cell? ⟨w.heap.size, 1, none⟩ = some (.int .i64 x1) := cell_of_row _ _ 1 _ _ _ HX.out.here
  have fc2 : (w2).cell? ⟨w.heap.size, 2, none⟩ = some (.int .i64 x2) := cell_of_row _ _ 2 _ _ _ HX.out.here
  have fc3 : (w2).cell? ⟨w.heap.size, 3, none⟩ = some (.int .i64 x3) := cell_of_row _ _ 3 _ _ _ HX.out.here
  have fc4 : (w2).cell? ⟨w.heap.size, 4, none⟩ = some (.int .i64 x4) := cell_of_row _ _ 4 _ _ _ HX.out.here
  have fc5 : (w2).cell? ⟨w.heap.size, 5, none⟩ = some (.int .i64 x5) := cell_of_row _ _ 5 _ _ _ HX.out.here
  have fc6 : (w2).cell? ⟨w.heap.size, 6, none⟩ = some (.int .i64 x6) := cell_of_row _ _ 6 _ _ _ HX.out.here
  have fc7 : (w2).cell? ⟨w.heap.size, 7, none⟩ = some (.bool x7) := cell_of_row _ _ 7 _ _ _ HX.out.here
  have fc8 : (w2).cell? ⟨w.heap.size, 8, none⟩ = some (.int .i64 x8) := cell_of_row _ _ 8 _ _ _ HX.out.here
  have fc9 : (w2).cell? ⟨w.heap.size, 9, none⟩ = some (.bool x9) := cell_of_row _ _ 9 _ _ _ HX.out.here
  have fc10 : (w2).cell? ⟨w.heap.size, 10, none⟩ = some (.slice a0 n0 c0) := cell_of_row _ _ 10 _ _ _ HX.out.here
  have fc11 : (w2).cell? ⟨w.heap.size, 11, none⟩ = some (.slice a1 n1 c1) := cell_of_row _ _ 11 _ _ _ HX.out.here
  go_wp2_with fail
  go_ret
  exact ⟨rfl, HW.out⟩
set_option maxHeartbeats 4000000 in
theorem szSegment_d (w : World) (x0 : Int) (x1 : Int) (x2 : Int) (x3 : Int) (x4 : Int) (x5 : Int) (x6 : Int) (x7 : Bool) (x8 : Int) (x9 : Bool) (a0 : Option Addr) (n0 c0 : Nat) (a1 : Option Addr) (n1 c1 : Nat) (L0 L1 L2 : Int) (hl1 : 0 ≤ L1) (hf0 : ∀ (W : World), Calls Tryd.prog 24 #[.slice a0 n0 c0, .int .i64 L0] W fun e w' => e = .returned (.int .i64 L1) ∧ Below W.heap.size W w') (hl2 : 0 ≤ L2) (hf1 : ∀ (W : World), Calls Tryd.prog 25 #[.slice a1 n1 c1, .int .i64 L1] W fun e w' => e = .returned (.int .i64 L2) ∧ Below W.heap.size W w') :
    Calls Tryd.prog 7 #[.agg #[.int .i64 x0, .int .i64 x1, .int .i64 x2, .int .i64 x3, .int .i64 x4, .int .i64 x5, .int .i64 x6, .bool x7, .int .i64 x8, .bool x9, .slice a0 n0 c0, .slice a1 n1 c1], .int .i64 L0] w fun e w' => e = .returned (.int .i64 L2) ∧ Below w.heap.size w w' := by
  have HF0 := hide hf0
  clear hf0
  have HF1 := hide hf1
  clear hf1
  have HW := hide ((Below.refl w.heap.size w).alloc (Nat.le_refl _) (.cells #[.int .i64 x0, .int .i64 x1, .int .i64 x2, .int .i64 x3, .int .i64 x4, .int .i64 x5, .int .i64 x6, .bool x7, .int .i64 x8, .bool x9, .slice a0 n0 c0, .slice a1 n1 c1] 25))
  have HX := hide (Keep.new w (.cells #[.int .i64 x0, .int .i64 x1, .int .i64 x2, .int .i64 x3, .int .i64 x4, .int .i64 x5, .int .i64 x6, .bool x7, .int .i64 x8, .bool x9, .slice a0 n0 c0, .slice a1 n1 c1] 25))
  have fc0 : (w.alloc (.cells #[.int .i64 x0, .int .i64 x1, .int .i64 x2, .int .i64 x3, .int .i64 x4, .int .i64 x5, .int .i64 x6, .bool x7, .int .i64 x8, .bool x9, .slice a0 n0 c0, .slice a1 n1 c1] 25)).cell? ⟨w.heap.size, 0, none⟩ = some (.int .i64 x0) := cell_of_row _ _ 0 _ _ _ HX.out.here
  have fc1 : (w.alloc (.cells #[.int .i64 x0, .int .i64 x1, .int .i64 x2, .int .i64 x3, .int .i64 x4, .int .i64 x5, .int .i64 x6, .bool x7, .int .i64 x8, .bool x9, .slice a0 n0 c0, .slice a1 n1 c1] 25)).cell? ⟨w.heap.size, 1, none⟩ = some (.int .i64 x1) := cell_of_row _ _ 1 _ _ _ HX.out.here
  have fc2 : (w.alloc (.cells #[.int .i64 x0, .int .i64 x1, .int .i64 x2, .int .i64 x3, .int .i64 x4, .int .i64 x5, .int .i64 x6, .bool x7, .int .i64 x8, .bool x9, .slice a0 n0 c0, .slice a1 n1 c1] 25)).cell? ⟨w.heap.size, 2, none⟩ = some (.int .i64 x2) := cell_of_row _ _ 2 _ _ _ HX.out.here
  have fc3 : (w.alloc (.cells #[.int .i64 x0, .int .i64 x1, .int .i64 x2, .int .i64 x3, .int .i64 x4, .int .i64 x5, .int .i64 x6, .bool x7, .int .i64 x8, .bool x9, .slice a0 n0 c0, .slice a1 n1 c1] 25)).cell? ⟨w.heap.size, 3, none⟩ = some (.int .i64 x3) := cell_of_row _ _ 3 _ _ _ HX.out.here
  have fc4 : (w.alloc (.cells #[.int .i64 x0, .int .i64 x1, .int .i64 x2, .int .i64 x3, .int .i64 x4, .int .i64 x5, .int .i64 x6, .bool x7, .int .i64 x8, .bool x9, .slice a0 n0 c0, .slice a1 n1 c1] 25)).cell? ⟨w.heap.size, 4, none⟩ = some (.int .i64 x4) := cell_of_row _ _ 4 _ _ _ HX.out.here
  have fc5 : (w.alloc (.cells #[.int .i64 x0, .int .i64 x1, .int .i64 x2, .int .i64 x3, .int .i64 x4, .int .i64 x5, .int .i64 x6, .bool x7, .int .i64 x8, .bool x9, .slice a0 n0 c0, .slice a1 n1 c1] 25)).cell? ⟨w.heap.size, 5, none⟩ = some (.int .i64 x5) := cell_of_row _ _ 5 _ _ _ HX.out.here
  have fc6 : (w.alloc (.cells #[.int .i64 x0, .int .i64 x1, .int .i64 x2, .int .i64 x3, .int .i64 x4, .int .i64 x5, .int .i64 x6, .bool x7, .int .i64 x8, .bool x9, .slice a0 n0 c0, .slice a1 n1 c1] 25)).cell? ⟨w.heap.size, 6, none⟩ = some (.int .i64 x6) := cell_of_row _ _ 6 _ _ _ HX.out.here
  have fc7 : (w.alloc (.cells #[.int .i64 x0, .int .i64 x1, .int .i64 x2, .int .i64 x3, .int .i64 x4, .int .i64 x5, .int .i64 x6, .bool x7, .int .i64 x8, .bool x9, .slice a0 n0 c0, .slice a1 n1 c1] 25)).cell? ⟨w.heap.size, 7, none⟩ = some (.bool x7) := cell_of_row _ _ 7 _ _ _ HX.out.here
  have fc8 : (w.alloc (.cells #[.int .i64 x0, .int .i64 x1, .int .i64 x2, .int .i64 x3, .int .i64 x4, .int .i64 x5, .int .i64 x6, .bool x7, .int .i64 x8, .bool x9, .slice a0 n0 c0, .slice a1 n1 c1] 25)).cell? ⟨w.heap.size, 8, none⟩ = some (.int .i64 x8) := cell_of_row _ _ 8 _ _ _ HX.out.here
  have fc9 : (w.alloc (.cells #[.int .i64 x0, .int .i64 x1, .int .i64 x2, .int .i64 x3, .int .i64 x4, .int .i64 x5, .int .i64 x6, .bool x7, .int .i64 x8, .bool x9, .slice a0 n0 c0, .slice a1 n1 c1] 25)).cell? ⟨w.heap.size, 9, none⟩ = some (.bool x9) := cell_of_row _ _ 9 _ _ _ HX.out.here
  have fc10 : (w.alloc (.cells #[.int .i64 x0, .int .i64 x1, .int .i64 x2, .int .i64 x3, .int .i64 x4, .int .i64 x5, .int .i64 x6, .bool x7, .int .i64 x8, .bool x9, .slice a0 n0 c0, .slice a1 n1 c1] 25)).cell? ⟨w.heap.size, 10, none⟩ = some (.slice a0 n0 c0) := cell_of_row _ _ 10 _ _ _ HX.out.here
  have fc11 : (w.alloc (.cells #[.int .i64 x0, .int .i64 x1, .int .i64 x2, .int .i64 x3, .int .i64 x4, .int .i64 x5, .int .i64 x6, .bool x7, .int .i64 x8, .bool x9, .slice a0 n0 c0, .slice a1 n1 c1] 25)).cell? ⟨w.heap.size, 11, none⟩ = some (.slice a1 n1 c1) := cell_of_row _ _ 11 _ _ _ HX.out.here
  go_enter Tryd.func7, Tryd.ntmps7
  go_wp2_with fail
  generalize w.alloc (.cells #[.int .i64 x0, .int .i64 x1, .int .i64 x2, .int .i64 x3, .int .i64 x4, .int .i64 x5, .int .i64 x6, .bool x7, .int .i64 x8, .bool x9, .slice a0 n0 c0, .slice a1 n1 c1] 25) = W at *
  clear fc0 fc1 fc2 fc3 fc4 fc5 fc6 fc7 fc8 fc9 fc10 fc11
  refine (HF0.out _).mono ?_
  rintro e w1 ⟨rfl, hb⟩
  replace HX := hide (HX.out.next hb)
  replace HW := hide (below_on HW.out hb)
  clear hb
  have fc0 : (w1).cell? ⟨w.heap.size, 0, none⟩ = some (.int .i64 x0) := cell_of_row _ _ 0 _ _ _ HX.out.here
  have fc1 : (w1).cell? ⟨w.heap.size, 1, none⟩ = some (.int .i64 x1) := cell_of_row _ _ 1 _ _ _ HX.out.here
  have fc2 : (w1).cell? ⟨w.heap.size, 2, none⟩ = some (.int .i64 x2) := cell_of_row _ _ 2 _ _ _ HX.out.here
  have fc3 : (w1).cell? ⟨w.heap.size, 3, none⟩ = some (.int .i64 x3) := cell_of_row _ _ 3 _ _ _ HX.out.here
  have fc4 : (w1).cell? ⟨w.heap.size, 4, none⟩ = some (.int .i64 x4) := cell_of_row _ _ 4 _ _ _ HX.out.here
  have fc5 : (w1).cell? ⟨w.heap.size, 5, none⟩ = some (.int .i64 x5) := cell_of_row _ _ 5 _ _ _ HX.out.here
  have fc6 : (w1).cell? ⟨w.heap.size, 6, none⟩ = some (.int .i64 x6) := cell_of_row _ _ 6 _ _ _ HX.out.here
  have fc7 : (w1).cell? ⟨w.heap.size, 7, none⟩ = some (.bool x7) := cell_of_row _ _ 7 _ _ _ HX.out.here
  have fc8 : (w1).cell? ⟨w.heap.size, 8, none⟩ = some (.int .i64 x8) := cell_of_row _ _ 8 _ _ _ HX.out.here
  have fc9 : (w1).cell? ⟨w.heap.size, 9, none⟩ = some (.bool x9) := cell_of_row _ _ 9 _ _ _ HX.out.here
  have fc10 : (w1).cell? ⟨w.heap.size, 10, none⟩ = some (.slice a0 n0 c0) := cell_of_row _ _ 10 _ _ _ HX.out.here
  have fc11 : (w1).cell? ⟨w.heap.size, 11, none⟩ = some (.slice a1 n1 c1) := cell_of_row _ _ 11 _ _ _ HX.out.here
  go_wp2_with fail
  clear fc0 fc1 fc2 fc3 fc4 fc5 fc6 fc7 fc8 fc9 fc10 fc11
  refine (HF1.out _).mono ?_
  rintro e w2 ⟨rfl, hb⟩
  replace HX := hide (HX.out.next hb)
  replace HW := hide (below_on HW.out hb)
  clear hb
  have fc0 : (w2).cell? ⟨w.heap.size, 0, none⟩ = some (.int .i64 x0) := cell_of_row _ _ 0 _ _ _ HX.out.here
  have fc1 : (w2).cell? ⟨w.heap.size, 1, none⟩ = some (.int .i64 x1) := cell_of_row _ _ 1 _ _ _ HX.out.here
  have fc2 : (w2).cell? ⟨w.heap.size, 2, none⟩ = some (.int .i64 x2) := cell_of_row _ _ 2 _ _ _ HX.out.here
  have fc3 : (w2).cell? ⟨w.heap.size, 3, none⟩ = some (.int .i64 x3) := cell_of_row _ _ 3 _ _ _ HX.out.here
  have fc4 : (w2).cell? ⟨w.heap.size, 4, none⟩ = some (.int .i64 x4) := cell_of_row _ _ 4 _ _ _ HX.out.here
  have fc5 : (w2).cell? ⟨w.heap.size, 5, none⟩ = some (.int .i64 x5) := cell_of_row _ _ 5 _ _ _ HX.out.here
  have fc6 : (w2).cell? ⟨w.heap.size, 6, none⟩ = some (.int .i64 x6) := cell_of_row _ _ 6 _ _ _ HX.out.here
  have fc7 : (w2).cell? ⟨w.heap.size, 7, none⟩ = some (.bool x7) := cell_of_row _ _ 7 _ _ _ HX.out.here
  have fc8 : (w2).cell? ⟨w.heap.size, 8, none⟩ = some (.int .i64 x8) := cell_of_row _ _ 8 _ _ _ HX.out.here
  have fc9 : (w2).cell? ⟨w.heap.size, 9, none⟩ = some (.bool x9) := cell_of_row _ _ 9 _ _ _ HX.out.here
  have fc10 : (w2).cell? ⟨w.heap.size, 10, none⟩ = some (.slice a0 n0 c0) := cell_of_row _ _ 10 _ _ _ HX.out.here
  have fc11 : (w2).cell? ⟨w.heap.size, 11, none⟩ = some (.slice a1 n1 c1) := cell_of_row _ _ 11 _ _ _ HX.out.here
  go_wp2_with fail
  go_ret
  exact ⟨rfl, HW.out⟩
set_option maxHeartbeats 4000000 in
theorem toSegment_d (w : World) (x0 : Int) (x1 : Int) (x2 : Int) (x3 : Int) (x4 : Int) (x5 : Int) (x6 : Int) (x7 : Bool) (x8 : Int) (x9 : Bool) (a0 : Option Addr) (n0 c0 : Nat) (a1 : Option Addr) (n1 c1 : Nat) (d0 d1 : D) (hf0 : ∀ (W : World), Below w.heap.size w W → Calls Tryd.prog 31 #[.slice a0 n0 c0] W fun e w' => ∃ (a' : Option Addr) (k' : Nat) (f : List Nat), e = .returned (.slice a' n0 k') ∧ Holds w' W.heap.size d0 (.slice a' n0 k') f ∧ f.Nodup ∧ Below W.heap.size W w') (hf1 : ∀ (W : World), Below w.heap.size w W → Calls Tryd.prog 13 #[.slice a1 n1 c1] W fun e w' => ∃ (a' : Option Addr) (k' : Nat) (f : List Nat), e = .returned (.slice a' n1 k') ∧ Holds w' W.heap.size d1 (.slice a' n1 k') f ∧ f.Nodup ∧ Below W.heap.size W w') :
    Calls Tryd.prog 9 #[.agg #[.int .i64 x0, .int .i64 x1, .int .i64 x2, .int .i64 x3, .int .i64 x4, .int .i64 x5, .int .i64 x6, .bool x7, .int .i64 x8, .bool x9, .slice a0 n0 c0, .slice a1 n1 c1]] w fun e w' => ∃ (b0 : Option Addr) (k0 : Nat) (b1 : Option Addr) (k1 : Nat) (bs : List Nat), e = .returned (.agg #[.int .i64 x0, .int .i64 x1, .int .i64 x2, .int .i64 x3, .int .i64 x4, .int .i64 x5, .int .i64 x6, .bool x7, .int .i64 x8, .bool x9, .slice b0 n0 k0, .slice b1 n1 k1]) ∧ HoldsL w' w.heap.size [d0, d1] [.slice b0 n0 k0, .slice b1 n1 k1] bs ∧ bs.Nodup ∧ Below w.heap.size w w' := by
  have HF0 := hide hf0
  clear hf0
  have HF1 := hide hf1
  clear hf1
  have HT := hide (Three.start w (.cells #[.int .i64 x0, .int .i64 x1, .int .i64 x2, .int .i64 x3, .int .i64 x4, .int .i64 x5, .int .i64 x6, .bool x7, .int .i64 x8, .bool x9, .slice a0 n0 c0, .slice a1 n1 c1] 25) (.cells #[.int .i64 0, .int .i64 0, .int .i64 0, .int .i64 0, .int .i64 0, .int .i64 0, .int .i64 0, .bool false, .int .i64 0, .bool false, .slice none 0 0, .slice none 0 0] 31) (.cells #[.int .i64 x0, .int .i64 x1, .int .i64 x2, .int .i64 x3, .int .i64 x4, .int .i64 x5, .int .i64 x6, .bool x7, .int .i64 x8, .bool x9, .slice none 0 0, .slice none 0 0] 31))
  go_enter Tryd.func9, Tryd.ntmps9
  go_wp2_with fail
  generalize ((w.alloc (.cells #[.int .i64 x0, .int .i64 x1, .int .i64 x2, .int .i64 x3, .int .i64 x4, .int .i64 x5, .int .i64 x6, .bool x7, .int .i64 x8, .bool x9, .slice a0 n0 c0, .slice a1 n1 c1] 25)).alloc (.cells #[.int .i64 0, .int .i64 0, .int .i64 0, .int .i64 0, .int .i64 0, .int .i64 0, .int .i64 0, .bool false, .int .i64 0, .bool false, .slice none 0 0, .slice none 0 0] 31)).alloc (.cells #[.int .i64 x0, .int .i64 x1, .int .i64 x2, .int .i64 x3, .int .i64 x4, .int .i64 x5, .int .i64 x6, .bool x7, .int .i64 x8, .bool x9, .slice none 0 0, .slice none 0 0] 31) = W at *
  have hZ := HT.out.2.1
  have HP := hide (Keep.obj HT.out.2.2.1)
  have HR := hide (Keep.obj HT.out.2.2.2.1)
  have HO := hide (Keep.obj HT.out.2.2.2.2)
  have HW := hide HT.out.1
  clear HT
  refine (HF0.out _ HW.out).mono ?_
  rintro e w1 ⟨b0, k0, f0, rfl, hd, hn, hb⟩
  replace HP := hide (HP.out.next hb)
  replace HR := hide (HR.out.next hb)
  replace HO := hide (HO.out.next hb)
  replace HW := hide (below_on HW.out hb)
  have z0 := hb.size
  have HLo0 := hide (fun b hb => (Holds.lt _ _ _ hd b hb).1)
  have HHi0 := hide (fun b hb => (Holds.lt _ _ _ hd b hb).2)
  have HN0 := hide hn
  have HD0 := hide (Keep.data (holdsL_one (Holds.down (show w.heap.size ≤ W.heap.size by omega) _ _ _ hd)))
  clear hb hd hn
  have fe0 : (w1).cell? ⟨w.heap.size + 1 + 1, 0, none⟩ = some (.int .i64 x0) := cell_of_row _ _ 0 _ _ _ HO.out.here
  have fe1 : (w1).cell? ⟨w.heap.size + 1 + 1, 1, none⟩ = some (.int .i64 x1) := cell_of_row _ _ 1 _ _ _ HO.out.here
  have fe2 : (w1).cell? ⟨w.heap.size + 1 + 1, 2, none⟩ = some (.int .i64 x2) := cell_of_row _ _ 2 _ _ _ HO.out.here
  have fe3 : (w1).cell? ⟨w.heap.size + 1 + 1, 3, none⟩ = some (.int .i64 x3) := cell_of_row _ _ 3 _ _ _ HO.out.here
  have fe4 : (w1).cell? ⟨w.heap.size + 1 + 1, 4, none⟩ = some (.int .i64 x4) := cell_of_row _ _ 4 _ _ _ HO.out.here
  have fe5 : (w1).cell? ⟨w.heap.size + 1 + 1, 5, none⟩ = some (.int .i64 x5) := cell_of_row _ _ 5 _ _ _ HO.out.here
  have fe6 : (w1).cell? ⟨w.heap.size + 1 + 1, 6, none⟩ = some (.int .i64 x6) := cell_of_row _ _ 6 _ _ _ HO.out.here
  have fe7 : (w1).cell? ⟨w.heap.size + 1 + 1, 7, none⟩ = some (.bool x7) := cell_of_row _ _ 7 _ _ _ HO.out.here
  have fe8 : (w1).cell? ⟨w.heap.size + 1 + 1, 8, none⟩ = some (.int .i64 x8) := cell_of_row _ _ 8 _ _ _ HO.out.here
  have fe9 : (w1).cell? ⟨w.heap.size + 1 + 1, 9, none⟩ = some (.bool x9) := cell_of_row _ _ 9 _ _ _ HO.out.here
  have fe10 : (w1).cell? ⟨w.heap.size + 1 + 1, 10, none⟩ = some (.slice none 0 0) := cell_of_row _ _ 10 _ _ _ HO.out.here
  have fe11 : (w1).cell? ⟨w.heap.size + 1 + 1, 11, none⟩ = some (.slice none 0 0) := cell_of_row _ _ 11 _ _ _ HO.out.here
  have ef : ∀ q, w1.frozen? ⟨w.heap.size + 1 + 1, q, none⟩ = false := fun q => frozen_of_row _ _ q _ _ HO.out.here
  have fp0 : (w1).cell? ⟨w.heap.size, 0, none⟩ = some (.int .i64 x0) := cell_of_row _ _ 0 _ _ _ HP.out.here
  have fp1 : (w1).cell? ⟨w.heap.size, 1, none⟩ = some (.int .i64 x1) := cell_of_row _ _ 1 _ _ _ HP.out.here
  have fp2 : (w1).cell? ⟨w.heap.size, 2, none⟩ = some (.int .i64 x2) := cell_of_row _ _ 2 _ _ _ HP.out.here
  have fp3 : (w1).cell? ⟨w.heap.size, 3, none⟩ = some (.int .i64 x3) := cell_of_row _ _ 3 _ _ _ HP.out.here
  have fp4 : (w1).cell? ⟨w.heap.size, 4, none⟩ = some (.int .i64 x4) := cell_of_row _ _ 4 _ _ _ HP.out.here
  have fp5 : (w1).cell? ⟨w.heap.size, 5, none⟩ = some (.int .i64 x5) := cell_of_row _ _ 5 _ _ _ HP.out.here
  have fp6 : (w1).cell? ⟨w.heap.size, 6, none⟩ = some (.int .i64 x6) := cell_of_row _ _ 6 _ _ _ HP.out.here
  have fp7 : (w1).cell? ⟨w.heap.size, 7, none⟩ = some (.bool x7) := cell_of_row _ _ 7 _ _ _ HP.out.here
  have fp8 : (w1).cell? ⟨w.heap.size, 8, none⟩ = some (.int .i64 x8) := cell_of_row _ _ 8 _ _ _ HP.out.here
  have fp9 : (w1).cell? ⟨w.heap.size, 9, none⟩ = some (.bool x9) := cell_of_row _ _ 9 _ _ _ HP.out.here
  have fp10 : (w1).cell? ⟨w.heap.size, 10, none⟩ = some (.slice a0 n0 c0) := cell_of_row _ _ 10 _ _ _ HP.out.here
  have fp11 : (w1).cell? ⟨w.heap.size, 11, none⟩ = some (.slice a1 n1 c1) := cell_of_row _ _ 11 _ _ _ HP.out.here
  go_wp2_with fail
  clear fe0 fp0 fe1 fp1 fe2 fp2 fe3 fp3 fe4 fp4 fe5 fp5 fe6 fp6 fe7 fp7 fe8 fp8 fe9 fp9 fe10 fp10 fe11 fp11 ef
  have HO2 : Hid ((w1.setCell ⟨w.heap.size + 1 + 1, 10, none⟩ (.slice b0 n0 k0)).heap[w.heap.size + 1 + 1]? = some (.cells #[.int .i64 x0, .int .i64 x1, .int .i64 x2, .int .i64 x3, .int .i64 x4, .int .i64 x5, .int .i64 x6, .bool x7, .int .i64 x8, .bool x9, .slice b0 n0 k0, .slice none 0 0] 31)) := hide (heap_setCell_same w1 (w.heap.size + 1 + 1) 10 _ _ _ HO.out.here)
  replace HO := hide (Keep.obj HO2.out)
  clear HO2
  replace HP := hide (HP.out.set (w.heap.size + 1 + 1) 10 (.slice b0 n0 k0) (by intro hc; have := List.mem_singleton.1 hc; omega))
  replace HR := hide (HR.out.set (w.heap.size + 1 + 1) 10 (.slice b0 n0 k0) (by intro hc; have := List.mem_singleton.1 hc; omega))
  replace HD0 := hide (HD0.out.set (w.heap.size + 1 + 1) 10 (.slice b0 n0 k0) (by intro hc; have := HLo0.out _ (by simpa using hc); omega))
  replace HW := hide (below_set HW.out (w.heap.size + 1 + 1) 10 (.slice b0 n0 k0) (by omega))
  have zs0 : (w1.setCell ⟨w.heap.size + 1 + 1, 10, none⟩ (.slice b0 n0 k0)).heap.size = w1.heap.size := by simp
  generalize w1.setCell ⟨w.heap.size + 1 + 1, 10, none⟩ (.slice b0 n0 k0) = W1 at *
  refine (HF1.out _ HW.out).mono ?_
  rintro e w2 ⟨b1, k1, f1, rfl, hd, hn, hb⟩
  replace HP := hide (HP.out.next hb)
  replace HR := hide (HR.out.next hb)
  replace HO := hide (HO.out.next hb)
  replace HD0 := hide (HD0.out.next hb)
  replace HW := hide (below_on HW.out hb)
  have z1 := hb.size
  have HLo1 := hide (fun b hb => (Holds.lt _ _ _ hd b hb).1)
  have HHi1 := hide (fun b hb => (Holds.lt _ _ _ hd b hb).2)
  have HN1 := hide hn
  have HD1 := hide (Keep.data (holdsL_one (Holds.down (show w.heap.size ≤ W1.heap.size by omega) _ _ _ hd)))
  clear hb hd hn
  have fe0 : (w2).cell? ⟨w.heap.size + 1 + 1, 0, none⟩ = some (.int .i64 x0) := cell_of_row _ _ 0 _ _ _ HO.out.here
  have fe1 : (w2).cell? ⟨w.heap.size + 1 + 1, 1, none⟩ = some (.int .i64 x1) := cell_of_row _ _ 1 _ _ _ HO.out.here
  have fe2 : (w2).cell? ⟨w.heap.size + 1 + 1, 2, none⟩ = some (.int .i64 x2) := cell_of_row _ _ 2 _ _ _ HO.out.here
  have fe3 : (w2).cell? ⟨w.heap.size + 1 + 1, 3, none⟩ = some (.int .i64 x3) := cell_of_row _ _ 3 _ _ _ HO.out.here
  have fe4 : (w2).cell? ⟨w.heap.size + 1 + 1, 4, none⟩ = some (.int .i64 x4) := cell_of_row _ _ 4 _ _ _ HO.out.here
  have fe5 : (w2).cell? ⟨w.heap.size + 1 + 1, 5, none⟩ = some (.int .i64 x5) := cell_of_row _ _ 5 _ _ _ HO.out.here
  have fe6 : (w2).cell? ⟨w.heap.size + 1 + 1, 6, none⟩ = some (.int .i64 x6) := cell_of_row _ _ 6 _ _ _ HO.out.here
  have fe7 : (w2).cell? ⟨w.heap.size + 1 + 1, 7, none⟩ = some (.bool x7) := cell_of_row _ _ 7 _ _ _ HO.out.here
  have fe8 : (w2).cell? ⟨w.heap.size + 1 + 1, 8, none⟩ = some (.int .i64 x8) := cell_of_row _ _ 8 _ _ _ HO.out.here
  have fe9 : (w2).cell? ⟨w.heap.size + 1 + 1, 9, none⟩ = some (.bool x9) := cell_of_row _ _ 9 _ _ _ HO.out.here
  have fe10 : (w2).cell? ⟨w.heap.size + 1 + 1, 10, none⟩ = some (.slice b0 n0 k0) := cell_of_row _ _ 10 _ _ _ HO.out.here
  have fe11 : (w2).cell? ⟨w.heap.size + 1 + 1, 11, none⟩ = some (.slice none 0 0) := cell_of_row _ _ 11 _ _ _ HO.out.here
  have ef : ∀ q, w2.frozen? ⟨w.heap.size + 1 + 1, q, none⟩ = false := fun q => frozen_of_row _ _ q _ _ HO.out.here
  have fr0 : (w2).cell? ⟨w.heap.size + 1, 0, none⟩ = some (.int .i64 0) := cell_of_row _ _ 0 _ _ _ HR.out.here
  have fr1 : (w2).cell? ⟨w.heap.size + 1, 1, none⟩ = some (.int .i64 0) := cell_of_row _ _ 1 _ _ _ HR.out.here
  have fr2 : (w2).cell? ⟨w.heap.size + 1, 2, none⟩ = some (.int .i64 0) := cell_of_row _ _ 2 _ _ _ HR.out.here
  have fr3 : (w2).cell? ⟨w.heap.size + 1, 3, none⟩ = some (.int .i64 0) := cell_of_row _ _ 3 _ _ _ HR.out.here
  have fr4 : (w2).cell? ⟨w.heap.size + 1, 4, none⟩ = some (.int .i64 0) := cell_of_row _ _ 4 _ _ _ HR.out.here
  have fr5 : (w2).cell? ⟨w.heap.size + 1, 5, none⟩ = some (.int .i64 0) := cell_of_row _ _ 5 _ _ _ HR.out.here
  have fr6 : (w2).cell? ⟨w.heap.size + 1, 6, none⟩ = some (.int .i64 0) := cell_of_row _ _ 6 _ _ _ HR.out.here
  have fr7 : (w2).cell? ⟨w.heap.size + 1, 7, none⟩ = some (.bool false) := cell_of_row _ _ 7 _ _ _ HR.out.here
  have fr8 : (w2).cell? ⟨w.heap.size + 1, 8, none⟩ = some (.int .i64 0) := cell_of_row _ _ 8 _ _ _ HR.out.here
  have fr9 : (w2).cell? ⟨w.heap.size + 1, 9, none⟩ = some (.bool false) := cell_of_row _ _ 9 _ _ _ HR.out.here
  have fr10 : (w2).cell? ⟨w.heap.size + 1, 10, none⟩ = some (.slice none 0 0) := cell_of_row _ _ 10 _ _ _ HR.out.here
  have fr11 : (w2).cell? ⟨w.heap.size + 1, 11, none⟩ = some (.slice none 0 0) := cell_of_row _ _ 11 _ _ _ HR.out.here
  have rf : ∀ q, w2.frozen? ⟨w.heap.size + 1, q, none⟩ = false := fun q => frozen_of_row _ _ q _ _ HR.out.here
  go_wp2_with fail
  replace HD0 := hide (HD0.out.set (w.heap.size + 1 + 1) 11 (.slice b1 n1 k1) (by intro hc; have := HLo0.out _ (by simpa using hc); omega))
  replace HD1 := hide (HD1.out.set (w.heap.size + 1 + 1) 11 (.slice b1 n1 k1) (by intro hc; have := HLo1.out _ (by simpa using hc); omega))
  replace HW := hide (below_set HW.out (w.heap.size + 1 + 1) 11 (.slice b1 n1 k1) (by omega))
  replace HD0 := hide (HD0.out.set (w.heap.size + 1) 0 (.int .i64 x0) (by intro hc; have := HLo0.out _ (by simpa using hc); omega))
  replace HD1 := hide (HD1.out.set (w.heap.size + 1) 0 (.int .i64 x0) (by intro hc; have := HLo1.out _ (by simpa using hc); omega))
  replace HW := hide (below_set HW.out (w.heap.size + 1) 0 (.int .i64 x0) (by omega))
  replace HD0 := hide (HD0.out.set (w.heap.size + 1) 1 (.int .i64 x1) (by intro hc; have := HLo0.out _ (by simpa using hc); omega))
  replace HD1 := hide (HD1.out.set (w.heap.size + 1) 1 (.int .i64 x1) (by intro hc; have := HLo1.out _ (by simpa using hc); omega))
  replace HW := hide (below_set HW.out (w.heap.size + 1) 1 (.int .i64 x1) (by omega))
  replace HD0 := hide (HD0.out.set (w.heap.size + 1) 2 (.int .i64 x2) (by intro hc; have := HLo0.out _ (by simpa using hc); omega))
  replace HD1 := hide (HD1.out.set (w.heap.size + 1) 2 (.int .i64 x2) (by intro hc; have := HLo1.out _ (by simpa using hc); omega))
  replace HW := hide (below_set HW.out (w.heap.size + 1) 2 (.int .i64 x2) (by omega))
  replace HD0 := hide (HD0.out.set (w.heap.size + 1) 3 (.int .i64 x3) (by intro hc; have := HLo0.out _ (by simpa using hc); omega))
  replace HD1 := hide (HD1.out.set (w.heap.size + 1) 3 (.int .i64 x3) (by intro hc; have := HLo1.out _ (by simpa using hc); omega))
  replace HW := hide (below_set HW.out (w.heap.size + 1) 3 (.int .i64 x3) (by omega))
  replace HD0 := hide (HD0.out.set (w.heap.size + 1) 4 (.int .i64 x4) (by intro hc; have := HLo0.out _ (by simpa using hc); omega))
  replace HD1 := hide (HD1.out.set (w.heap.size + 1) 4 (.int .i64 x4) (by intro hc; have := HLo1.out _ (by simpa using hc); omega))
  replace HW := hide (below_set HW.out (w.heap.size + 1) 4 (.int .i64 x4) (by omega))
  replace HD0 := hide (HD0.out.set (w.heap.size + 1) 5 (.int .i64 x5) (by intro hc; have := HLo0.out _ (by simpa using hc); omega))
  replace HD1 := hide (HD1.out.set (w.heap.size + 1) 5 (.int .i64 x5) (by intro hc; have := HLo1.out _ (by simpa using hc); omega))
  replace HW := hide (below_set HW.out (w.heap.size + 1) 5 (.int .i64 x5) (by omega))
  replace HD0 := hide (HD0.out.set (w.heap.size + 1) 6 (.int .i64 x6) (by intro hc; have := HLo0.out _ (by simpa using hc); omega))
  replace HD1 := hide (HD1.out.set (w.heap.size + 1) 6 (.int .i64 x6) (by intro hc; have := HLo1.out _ (by simpa using hc); omega))
  replace HW := hide (below_set HW.out (w.heap.size + 1) 6 (.int .i64 x6) (by omega))
  replace HD0 := hide (HD0.out.set (w.heap.size + 1) 7 (.bool x7) (by intro hc; have := HLo0.out _ (by simpa using hc); omega))
  replace HD1 := hide (HD1.out.set (w.heap.size + 1) 7 (.bool x7) (by intro hc; have := HLo1.out _ (by simpa using hc); omega))
  replace HW := hide (below_set HW.out (w.heap.size + 1) 7 (.bool x7) (by omega))
  replace HD0 := hide (HD0.out.set (w.heap.size + 1) 8 (.int .i64 x8) (by intro hc; have := HLo0.out _ (by simpa using hc); omega))
  replace HD1 := hide (HD1.out.set (w.heap.size + 1) 8 (.int .i64 x8) (by intro hc; have := HLo1.out _ (by simpa using hc); omega))
  replace HW := hide (below_set HW.out (w.heap.size + 1) 8 (.int .i64 x8) (by omega))
  replace HD0 := hide (HD0.out.set (w.heap.size + 1) 9 (.bool x9) (by intro hc; have := HLo0.out _ (by simpa using hc); omega))
  replace HD1 := hide (HD1.out.set (w.heap.size + 1) 9 (.bool x9) (by intro hc; have := HLo1.out _ (by simpa using hc); omega))
  replace HW := hide (below_set HW.out (w.heap.size + 1) 9 (.bool x9) (by omega))
  replace HD0 := hide (HD0.out.set (w.heap.size + 1) 10 (.slice b0 n0 k0) (by intro hc; have := HLo0.out _ (by simpa using hc); omega))
  replace HD1 := hide (HD1.out.set (w.heap.size + 1) 10 (.slice b0 n0 k0) (by intro hc; have := HLo1.out _ (by simpa using hc); omega))
  replace HW := hide (below_set HW.out (w.heap.size + 1) 10 (.slice b0 n0 k0) (by omega))
  replace HD0 := hide (HD0.out.set (w.heap.size + 1) 11 (.slice b1 n1 k1) (by intro hc; have := HLo0.out _ (by simpa using hc); omega))
  replace HD1 := hide (HD1.out.set (w.heap.size + 1) 11 (.slice b1 n1 k1) (by intro hc; have := HLo1.out _ (by simpa using hc); omega))
  replace HW := hide (below_set HW.out (w.heap.size + 1) 11 (.slice b1 n1 k1) (by omega))
  obtain ⟨_, _, _, _, ee, eb, hh0, hr⟩ := holdsL_cons.1 HD0.out.here
  cases ee
  obtain ⟨_, rfl⟩ := holdsL_nil.1 hr
  rw [List.append_nil, List.append_nil] at eb
  subst eb
  obtain ⟨_, _, _, _, ee, eb, hh1, hr⟩ := holdsL_cons.1 HD1.out.here
  cases ee
  obtain ⟨_, rfl⟩ := holdsL_nil.1 hr
  rw [List.append_nil, List.append_nil] at eb
  subst eb
  exact bodyPost_ret (v := .agg #[.int .i64 x0, .int .i64 x1, .int .i64 x2, .int .i64 x3, .int .i64 x4, .int .i64 x5, .int .i64 x6, .bool x7, .int .i64 x8, .bool x9, .slice b0 n0 k0, .slice b1 n1 k1]) (by simp [results, Tryd.results9, go_sem, fr0, fr1, fr2, fr3, fr4, fr5, fr6, fr7, fr8, fr9, fr10, fr11]) rfl ⟨b0, k0, b1, k1, _, rfl, holdsL_cons.2 ⟨_, _, _, _, rfl, rfl, hh0, holdsL_cons.2 ⟨_, _, _, _, rfl, rfl, hh1, holdsL_nil.2 ⟨rfl, rfl⟩⟩⟩, (List.nodup_append.2 ⟨HN0.out, (by rw [List.append_nil]; exact HN1.out), fun x hx y hy e => by subst e; have h1 := HHi0.out x hx; simp only [List.append_nil] at hy; have h2 := HLo1.out x hy; omega⟩), HW.out⟩
end Go.Proofs.YtcnfnimgpiaamaaDoor
