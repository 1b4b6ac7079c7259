/-
Contracts of functions of this seat.
-/
import Derived.Test.YtakoagfeiolkjabDoorRows
import Derived.WalkKit
import Derived.ProofKit
import Derived.OpenShut
import Derived.Test.YtakoagfeiolkjabDoorStp
namespace Go.Proofs.YtakoagfeiolkjabDoor
open Go.ChangeShapes Go.WideShapes Go.ChangeAt Go.RowKit
set_option linter.unusedVariables false
set_option maxRecDepth 100000
def inB (x l h : Int) : Bool := decide (l ≤ x ∧ x ≤ h)
theorem inB_iff {x l h : Int} : inB x l h = true ↔ l ≤ x ∧ x ≤ h := by unfold inB; simp
theorem In_walk (n l h : Int) (w : World) :
    Calls Tryd.prog 37 #[.int .i64 n, .int .i64 l, .int .i64 h] w fun e w' => e = .returned (.bool (inB n l h)) ∧ w' = w := by
  by_cases hh : l ≤ n ∧ n ≤ h
  · rw [inB_iff.2 hh]; exact In_yes n l h w hh
  · rw [show inB n l h = false by unfold inB; exact decide_eq_false hh]; exact In_no n l h w hh

/-- What a packet's numbers must be. -/
def pkOK (x0 x1 x4 x5 x6 x7 x8 : Int) (n0 : Nat) : Bool := inB x0 0 255 && inB x5 0 255 && inB x6 0 255 && inB x1 0 65535 && inB x4 0 65528 && (x4 % 8 == 0) && adrB x7 && adrB x8 && decide (n0 ≤ 40) && (n0 % 4 == 0)
set_option maxHeartbeats 4000000 in
theorem l05OK_walk (x0 x1 : Int) (x2 x3 : Bool) (x4 x5 x6 x7 x8 : Int) (a0 : Option Addr) (n0 c0 : Nat) (a1 : Option Addr) (n1 c1 : Nat) (w : World) (m0 : n0 ≤ 1048576) :
    Calls Tryd.prog 56 #[.agg #[.int .i64 x0, .int .i64 x1, .bool x2, .bool x3, .int .i64 x4, .int .i64 x5, .int .i64 x6, .int .i64 x7, .int .i64 x8, .slice a0 n0 c0, .slice a1 n1 c1]] w fun e w' => e = .returned (.bool (pkOK x0 x1 x4 x5 x6 x7 x8 n0)) ∧ Below w.heap.size w w' := by
  have HB := hide (BoxPacket.start w x0 x1 x2 x3 x4 x5 x6 x7 x8 (.slice a0 n0 c0) (.slice a1 n1 c1) 47)
  obtain ⟨_, _, k0, k1, k2, k3, k4, k5, k6, k7, k8, k9, k10⟩ := HB.out
  cases h0 : inB x0 0 255 with
  | false =>
    have E : Hid (pkOK x0 x1 x4 x5 x6 x7 x8 n0 = false) := hide (by unfold pkOK; rw [h0]; simp)
    go_enter Tryd.func56, Tryd.ntmps56
    go_wp2_with (first | (go_at_call 37; refine (In_walk _ _ _ _).mono ?_; rintro e w' ⟨rfl, rfl⟩) | (go_at_call 46; refine (specAddrOK_walk _ _).mono ?_; rintro e w' ⟨rfl, rfl⟩))
    go_ret
    first | exact ⟨ret_bool E.out.symm, HB.out.1⟩ | exact ⟨ret_bool (by rw [E.out]; first | exact beq_iff_eq.2 h9 | exact beq_eq_false_iff_ne.2 h9), HB.out.1⟩
  | true =>
    cases h1 : inB x5 0 255 with
    | false =>
      have E : Hid (pkOK x0 x1 x4 x5 x6 x7 x8 n0 = false) := hide (by unfold pkOK; rw [h1]; simp)
      go_enter Tryd.func56, Tryd.ntmps56
      go_wp2_with (first | (go_at_call 37; refine (In_walk _ _ _ _).mono ?_; rintro e w' ⟨rfl, rfl⟩) | (go_at_call 46; refine (specAddrOK_walk _ _).mono ?_; rintro e w' ⟨rfl, rfl⟩))
      go_ret
      first | exact ⟨ret_bool E.out.symm, HB.out.1⟩ | exact ⟨ret_bool (by rw [E.out]; first | exact beq_iff_eq.2 h9 | exact beq_eq_false_iff_ne.2 h9), HB.out.1⟩
    | true =>
      cases h2 : inB x6 0 255 with
      | false =>
        have E : Hid (pkOK x0 x1 x4 x5 x6 x7 x8 n0 = false) := hide (by unfold pkOK; rw [h2]; simp)
        go_enter Tryd.func56, Tryd.ntmps56
        go_wp2_with (first | (go_at_call 37; refine (In_walk _ _ _ _).mono ?_; rintro e w' ⟨rfl, rfl⟩) | (go_at_call 46; refine (specAddrOK_walk _ _).mono ?_; rintro e w' ⟨rfl, rfl⟩))
        go_ret
        first | exact ⟨ret_bool E.out.symm, HB.out.1⟩ | exact ⟨ret_bool (by rw [E.out]; first | exact beq_iff_eq.2 h9 | exact beq_eq_false_iff_ne.2 h9), HB.out.1⟩
      | true =>
        cases h3 : inB x1 0 65535 with
        | false =>
          have E : Hid (pkOK x0 x1 x4 x5 x6 x7 x8 n0 = false) := hide (by unfold pkOK; rw [h3]; simp)
          go_enter Tryd.func56, Tryd.ntmps56
          go_wp2_with (first | (go_at_call 37; refine (In_walk _ _ _ _).mono ?_; rintro e w' ⟨rfl, rfl⟩) | (go_at_call 46; refine (specAddrOK_walk _ _).mono ?_; rintro e w' ⟨rfl, rfl⟩))
          go_ret
          first | exact ⟨ret_bool E.out.symm, HB.out.1⟩ | exact ⟨ret_bool (by rw [E.out]; first | exact beq_iff_eq.2 h9 | exact beq_eq_false_iff_ne.2 h9), HB.out.1⟩
        | true =>
          cases h4 : inB x4 0 65528 with
          | false =>
            have E : Hid (pkOK x0 x1 x4 x5 x6 x7 x8 n0 = false) := hide (by unfold pkOK; rw [h4]; simp)
            go_enter Tryd.func56, Tryd.ntmps56
            go_wp2_with (first | (go_at_call 37; refine (In_walk _ _ _ _).mono ?_; rintro e w' ⟨rfl, rfl⟩) | (go_at_call 46; refine (specAddrOK_walk _ _).mono ?_; rintro e w' ⟨rfl, rfl⟩))
            go_ret
            first | exact ⟨ret_bool E.out.symm, HB.out.1⟩ | exact ⟨ret_bool (by rw [E.out]; first | exact beq_iff_eq.2 h9 | exact beq_eq_false_iff_ne.2 h9), HB.out.1⟩
          | true =>
            obtain ⟨r0, r1⟩ := inB_iff.1 h4
            by_cases h5 : x4 % 8 = 0
            rotate_left
            · have E : Hid (pkOK x0 x1 x4 x5 x6 x7 x8 n0 = false) := hide (by unfold pkOK; rw [show (x4 % 8 == 0) = false by simp [h5]]; simp)
              go_enter Tryd.func56, Tryd.ntmps56
              go_wp2_with (first | (go_at_call 37; refine (In_walk _ _ _ _).mono ?_; rintro e w' ⟨rfl, rfl⟩) | (go_at_call 46; refine (specAddrOK_walk _ _).mono ?_; rintro e w' ⟨rfl, rfl⟩))
              go_ret
              first | exact ⟨ret_bool E.out.symm, HB.out.1⟩ | exact ⟨ret_bool (by rw [E.out]; first | exact beq_iff_eq.2 h9 | exact beq_eq_false_iff_ne.2 h9), HB.out.1⟩
            cases h6 : adrB x7 with
            | false =>
              have E : Hid (pkOK x0 x1 x4 x5 x6 x7 x8 n0 = false) := hide (by unfold pkOK; rw [h6]; simp)
              go_enter Tryd.func56, Tryd.ntmps56
              go_wp2_with (first | (go_at_call 37; refine (In_walk _ _ _ _).mono ?_; rintro e w' ⟨rfl, rfl⟩) | (go_at_call 46; refine (specAddrOK_walk _ _).mono ?_; rintro e w' ⟨rfl, rfl⟩))
              go_ret
              first | exact ⟨ret_bool E.out.symm, HB.out.1⟩ | exact ⟨ret_bool (by rw [E.out]; first | exact beq_iff_eq.2 h9 | exact beq_eq_false_iff_ne.2 h9), HB.out.1⟩
            | true =>
              cases h7 : adrB x8 with
              | false =>
                have E : Hid (pkOK x0 x1 x4 x5 x6 x7 x8 n0 = false) := hide (by unfold pkOK; rw [h7]; simp)
                go_enter Tryd.func56, Tryd.ntmps56
                go_wp2_with (first | (go_at_call 37; refine (In_walk _ _ _ _).mono ?_; rintro e w' ⟨rfl, rfl⟩) | (go_at_call 46; refine (specAddrOK_walk _ _).mono ?_; rintro e w' ⟨rfl, rfl⟩))
                go_ret
                first | exact ⟨ret_bool E.out.symm, HB.out.1⟩ | exact ⟨ret_bool (by rw [E.out]; first | exact beq_iff_eq.2 h9 | exact beq_eq_false_iff_ne.2 h9), HB.out.1⟩
              | true =>
                by_cases h8 : (n0 : Int) ≤ 40
                rotate_left
                · have E : Hid (pkOK x0 x1 x4 x5 x6 x7 x8 n0 = false) := hide (by unfold pkOK; rw [show decide (n0 ≤ 40) = false from decide_eq_false (by omega)]; simp)
                  go_enter Tryd.func56, Tryd.ntmps56
                  go_wp2_with (first | (go_at_call 37; refine (In_walk _ _ _ _).mono ?_; rintro e w' ⟨rfl, rfl⟩) | (go_at_call 46; refine (specAddrOK_walk _ _).mono ?_; rintro e w' ⟨rfl, rfl⟩))
                  go_ret
                  first | exact ⟨ret_bool E.out.symm, HB.out.1⟩ | exact ⟨ret_bool (by rw [E.out]; first | exact beq_iff_eq.2 h9 | exact beq_eq_false_iff_ne.2 h9), HB.out.1⟩
                by_cases h9 : (n0 : Int) % 4 = 0
                rotate_left
                · have E : Hid (pkOK x0 x1 x4 x5 x6 x7 x8 n0 = false) := hide (by unfold pkOK; rw [show (n0 % 4 == 0) = false by rw [beq_eq_false_iff_ne]; omega]; simp)
                  go_enter Tryd.func56, Tryd.ntmps56
                  go_wp2_with (first | (go_at_call 37; refine (In_walk _ _ _ _).mono ?_; rintro e w' ⟨rfl, rfl⟩) | (go_at_call 46; refine (specAddrOK_walk _ _).mono ?_; rintro e w' ⟨rfl, rfl⟩))
                  go_ret
                  first | exact ⟨ret_bool E.out.symm, HB.out.1⟩ | exact ⟨ret_bool (by rw [E.out]; first | exact beq_iff_eq.2 h9 | exact beq_eq_false_iff_ne.2 h9), HB.out.1⟩
                have E : Hid (pkOK x0 x1 x4 x5 x6 x7 x8 n0 = true) := hide (by unfold pkOK; rw [h0, h1, h2, h3, h4, h6, h7, show (x4 % 8 == 0) = true by simp [h5], show decide (n0 ≤ 40) = true from decide_eq_true (by omega), show (n0 % 4 == 0) = true by rw [beq_iff_eq]; omega]; rfl)
                go_enter Tryd.func56, Tryd.ntmps56
                go_wp2_with (first | (go_at_call 37; refine (In_walk _ _ _ _).mono ?_; rintro e w' ⟨rfl, rfl⟩) | (go_at_call 46; refine (specAddrOK_walk _ _).mono ?_; rintro e w' ⟨rfl, rfl⟩))
                go_ret
                first | exact ⟨ret_bool E.out.symm, HB.out.1⟩ | exact ⟨ret_bool (by rw [E.out]; first | exact beq_iff_eq.2 h9 | exact beq_eq_false_iff_ne.2 h9), HB.out.1⟩
end Go.Proofs.YtakoagfeiolkjabDoor
