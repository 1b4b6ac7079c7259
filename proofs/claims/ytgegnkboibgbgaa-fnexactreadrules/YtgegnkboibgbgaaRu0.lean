/-
Contracts of functions of this seat.
-/
import Derived.Test.YtgegnkboibgbgaaRows
import Derived.WalkKit
import Derived.ProofKit
import Derived.OpenShut
import Derived.Test.YtgegnkboibgbgaaRt0
namespace Go.Proofs.Ytgegnkboibgbgaa
open Go.ChangeShapes Go.WideShapes Go.ChangeAt Go.RowKit
set_option linter.unusedVariables false
set_option maxRecDepth 100000
set_option maxHeartbeats 4000000 in
theorem eqRule_walk (z0 z1 z2 z3 z4 z5 z6 z7 z8 z9 z10 z11 : Int) (w : World) :
    Calls Try.prog 23 #[.agg #[.int .i64 z0, .int .i64 z1, .int .i64 z2, .int .i64 z3, .int .i64 z4, .int .i64 z5, .int .i64 z6, .int .i64 z7, .int .i64 z8, .int .i64 z9, .int .i64 z10, .int .i64 z11], .agg #[.int .i64 z0, .int .i64 z1, .int .i64 z2, .int .i64 z3, .int .i64 z4, .int .i64 z5, .int .i64 z6, .int .i64 z7, .int .i64 z8, .int .i64 z9, .int .i64 z10, .int .i64 z11]] w fun e w' => e = .returned (.bool true) ∧ Below w.heap.size w w' := by
  have HB := hide (two_allocs w (.cells #[.int .i64 z0, .int .i64 z1, .int .i64 z2, .int .i64 z3, .int .i64 z4, .int .i64 z5, .int .i64 z6, .int .i64 z7, .int .i64 z8, .int .i64 z9, .int .i64 z10, .int .i64 z11] 45) (.cells #[.int .i64 z0, .int .i64 z1, .int .i64 z2, .int .i64 z3, .int .i64 z4, .int .i64 z5, .int .i64 z6, .int .i64 z7, .int .i64 z8, .int .i64 z9, .int .i64 z10, .int .i64 z11] 45))
  go_enter Try.func23, Try.ntmps23
  have HA0 : Hid (HoldV ((w.alloc (.cells #[.int .i64 z0, .int .i64 z1, .int .i64 z2, .int .i64 z3, .int .i64 z4, .int .i64 z5, .int .i64 z6, .int .i64 z7, .int .i64 z8, .int .i64 z9, .int .i64 z10, .int .i64 z11] 45)).alloc (.cells #[.int .i64 z0, .int .i64 z1, .int .i64 z2, .int .i64 z3, .int .i64 z4, .int .i64 z5, .int .i64 z6, .int .i64 z7, .int .i64 z8, .int .i64 z9, .int .i64 z10, .int .i64 z11] 45)) w.heap.size #[.int .i64 z0, .int .i64 z1, .int .i64 z2, .int .i64 z3, .int .i64 z4, .int .i64 z5, .int .i64 z6, .int .i64 z7, .int .i64 z8, .int .i64 z9, .int .i64 z10, .int .i64 z11] 45) := hide HB.out.2.1
  have HC0 : Hid (HoldV ((w.alloc (.cells #[.int .i64 z0, .int .i64 z1, .int .i64 z2, .int .i64 z3, .int .i64 z4, .int .i64 z5, .int .i64 z6, .int .i64 z7, .int .i64 z8, .int .i64 z9, .int .i64 z10, .int .i64 z11] 45)).alloc (.cells #[.int .i64 z0, .int .i64 z1, .int .i64 z2, .int .i64 z3, .int .i64 z4, .int .i64 z5, .int .i64 z6, .int .i64 z7, .int .i64 z8, .int .i64 z9, .int .i64 z10, .int .i64 z11] 45)) (w.heap.size + 1) #[.int .i64 z0, .int .i64 z1, .int .i64 z2, .int .i64 z3, .int .i64 z4, .int .i64 z5, .int .i64 z6, .int .i64 z7, .int .i64 z8, .int .i64 z9, .int .i64 z10, .int .i64 z11] 45) := hide HB.out.2.2
  have HBE0 := hide HB.out.1
  clear HB
  go_wp2_with fail
  generalize hW : (w.alloc (.cells #[.int .i64 z0, .int .i64 z1, .int .i64 z2, .int .i64 z3, .int .i64 z4, .int .i64 z5, .int .i64 z6, .int .i64 z7, .int .i64 z8, .int .i64 z9, .int .i64 z10, .int .i64 z11] 45)).alloc (.cells #[.int .i64 z0, .int .i64 z1, .int .i64 z2, .int .i64 z3, .int .i64 z4, .int .i64 z5, .int .i64 z6, .int .i64 z7, .int .i64 z8, .int .i64 z9, .int .i64 z10, .int .i64 z11] 45) = W0 at *
  clear hW
  refine (eqPrefix_walk z3 z4 W0).mono ?_
  rintro e W1 ⟨rfl, hb1⟩
  have HA1 := hide (HA0.out.next hb1)
  have HC1 := hide (HC0.out.next hb1)
  have HBE1 := hide (HBE0.out.trans (hb1.mono HBE0.out.size))
  clear hb1 HA0 HC0 HBE0
  have a0_5 := HA1.out.cell 5 _ rfl
  have a0_6 := HA1.out.cell 6 _ rfl
  have a0_7 := HA1.out.cell 7 _ rfl
  have a0_8 := HA1.out.cell 8 _ rfl
  have c0_5 := HC1.out.cell 5 _ rfl
  have c0_6 := HC1.out.cell 6 _ rfl
  have c0_7 := HC1.out.cell 7 _ rfl
  have c0_8 := HC1.out.cell 8 _ rfl
  go_wp2_with fail
  refine (eqPrefix_walk z7 z8 W1).mono ?_
  rintro e W2 ⟨rfl, hb1⟩
  have HA2 := hide (HA1.out.next hb1)
  have HC2 := hide (HC1.out.next hb1)
  have HBE2 := hide (HBE1.out.trans (hb1.mono HBE1.out.size))
  clear hb1 HA1 HC1 HBE1
  have a1_9 := HA2.out.cell 9 _ rfl
  have a1_10 := HA2.out.cell 10 _ rfl
  have a1_11 := HA2.out.cell 11 _ rfl
  have c1_9 := HC2.out.cell 9 _ rfl
  have c1_10 := HC2.out.cell 10 _ rfl
  have c1_11 := HC2.out.cell 11 _ rfl
  go_wp2_with fail
  go_ret
  exact ⟨rfl, HBE2.out⟩
end Go.Proofs.Ytgegnkboibgbgaa
