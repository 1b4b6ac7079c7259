/-
Contracts of functions of this seat.
-/
import Derived.Test.YtfffkgladjphoaaRows
import Derived.WalkKit
import Derived.ProofKit
import Derived.OpenShut
import Derived.Test.YtfffkgladjphoaaBl0
namespace Go.Proofs.Ytfffkgladjphoaa
open Go.ChangeShapes Go.WideShapes Go.ChangeAt Go.RowKit
set_option linter.unusedVariables false
set_option maxRecDepth 100000
set_option maxHeartbeats 4000000 in
theorem validPiece_walk (x0 x1 x2 x3 : Int) (x4 x5 : Bool) (w : World) : Calls Try.prog 36 #[.agg #[.int .i64 x0, .int .i64 x1, .int .i64 x2, .int .i64 x3, .bool x4, .bool x5]] w fun e w' => e = .returned (.bool (vpB ⟨x0, x1, x2, x3, x4, x5⟩)) ∧ Below w.heap.size w w' := by
  have HB : Hid (HoldV (w.alloc (.cells #[.int .i64 x0, .int .i64 x1, .int .i64 x2, .int .i64 x3, .bool x4, .bool x5] 36)) w.heap.size _ 36) := hide (heap_alloc_new _ _)
  have HW := hide ((Below.refl w.heap.size w).alloc (Nat.le_refl _) (.cells #[.int .i64 x0, .int .i64 x1, .int .i64 x2, .int .i64 x3, .bool x4, .bool x5] 36))
  have k0 := HB.out.cell 0 _ rfl; have k1 := HB.out.cell 1 _ rfl; have k2 := HB.out.cell 2 _ rfl; have k3 := HB.out.cell 3 _ rfl; have k4 := HB.out.cell 4 _ rfl; have k5 := HB.out.cell 5 _ rfl
  by_cases h0 : x0 < x1
  · cases h1 : inB x2 0 1000000000 with
    | false =>
      have E : Hid (vpB ⟨x0, x1, x2, x3, x4, x5⟩ = false) := hide (decide_eq_false (fun h => by have := inB_iff.2 h.2.1; rw [h1] at this; cases this))
      go_enter Try.func36, Try.ntmps36
      go_wp2_with (go_at_call 27; refine (isTime_walk _ _).mono ?_; rintro e w2 ⟨rfl, rfl⟩)
      go_ret
      exact ⟨ret_bool E.out.symm, HW.out⟩
    | true =>
      by_cases h2 : 1 ≤ x3
      · by_cases h3 : x3 ≤ 1000000
        · cases x4 with
          | true =>
            cases x5 with
            | true =>
              have E : Hid (vpB ⟨x0, x1, x2, x3, true, true⟩ = false) := hide (decide_eq_false (fun h => h.2.2.2 ⟨rfl, rfl⟩))
              go_enter Try.func36, Try.ntmps36
              go_wp2_with (go_at_call 27; refine (isTime_walk _ _).mono ?_; rintro e w2 ⟨rfl, rfl⟩)
              go_ret
              exact ⟨ret_bool E.out.symm, HW.out⟩
            | false =>
              have E : Hid (vpB ⟨x0, x1, x2, x3, true, false⟩ = true) := hide (decide_eq_true ⟨h0, inB_iff.1 h1, ⟨h2, h3⟩, by simp⟩)
              go_enter Try.func36, Try.ntmps36
              go_wp2_with (go_at_call 27; refine (isTime_walk _ _).mono ?_; rintro e w2 ⟨rfl, rfl⟩)
              go_ret
              exact ⟨ret_bool E.out.symm, HW.out⟩
          | false =>
            have E : Hid (vpB ⟨x0, x1, x2, x3, false, x5⟩ = true) := hide (decide_eq_true ⟨h0, inB_iff.1 h1, ⟨h2, h3⟩, by simp⟩)
            go_enter Try.func36, Try.ntmps36
            go_wp2_with (go_at_call 27; refine (isTime_walk _ _).mono ?_; rintro e w2 ⟨rfl, rfl⟩)
            go_ret
            exact ⟨ret_bool E.out.symm, HW.out⟩
        · have E : Hid (vpB ⟨x0, x1, x2, x3, x4, x5⟩ = false) := hide (decide_eq_false (fun h => h3 h.2.2.1.2))
          go_enter Try.func36, Try.ntmps36
          go_wp2_with (go_at_call 27; refine (isTime_walk _ _).mono ?_; rintro e w2 ⟨rfl, rfl⟩)
          go_ret
          exact ⟨ret_bool E.out.symm, HW.out⟩
      · have E : Hid (vpB ⟨x0, x1, x2, x3, x4, x5⟩ = false) := hide (decide_eq_false (fun h => h2 h.2.2.1.1))
        go_enter Try.func36, Try.ntmps36
        go_wp2_with (go_at_call 27; refine (isTime_walk _ _).mono ?_; rintro e w2 ⟨rfl, rfl⟩)
        go_ret
        exact ⟨ret_bool E.out.symm, HW.out⟩
  · have E : Hid (vpB ⟨x0, x1, x2, x3, x4, x5⟩ = false) := hide (decide_eq_false (fun h => h0 h.1))
    go_enter Try.func36, Try.ntmps36
    go_wp2_with (go_at_call 27; refine (isTime_walk _ _).mono ?_; rintro e w2 ⟨rfl, rfl⟩)
    go_ret
    exact ⟨ret_bool E.out.symm, HW.out⟩
end Go.Proofs.Ytfffkgladjphoaa
