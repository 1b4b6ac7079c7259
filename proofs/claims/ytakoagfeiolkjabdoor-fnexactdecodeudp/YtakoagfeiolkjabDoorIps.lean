/-
Contracts of functions of this seat.
-/
import Derived.Test.YtakoagfeiolkjabDoorRows
import Derived.WalkKit
import Derived.ProofKit
import Derived.OpenShut
import Derived.Test.YtakoagfeiolkjabDoorIpk
import Derived.Test.YtakoagfeiolkjabDoorCur
import Derived.Deep.RegionHeld3
namespace Go.Proofs.YtakoagfeiolkjabDoor
open Go.ChangeShapes Go.WideShapes Go.ChangeAt Go.RowKit
set_option linter.unusedVariables false
set_option maxRecDepth 100000
theorem isAddr_walk (a : Int) (w : World) :
    Calls Tryd.prog 50 #[.int .i64 a] w fun e w' => e = .returned (.bool (adrB a)) ∧ w' = w := by
  by_cases h1 : 0 ≤ a
  · by_cases h2 : a ≤ 4294967295
    · have e := hide (adrB_iff.2 ⟨h1, h2⟩)
      go_enter Tryd.func50, Tryd.ntmps50
      go_wp2
      go_ret
      exact ⟨ret_bool e.out.symm, rfl⟩
    · have e : Hid (adrB a = false) := hide (by unfold adrB; simp; omega)
      go_enter Tryd.func50, Tryd.ntmps50
      go_wp2
      go_ret
      exact ⟨ret_bool e.out.symm, rfl⟩
  · have e : Hid (adrB a = false) := hide (by unfold adrB; simp; omega)
    go_enter Tryd.func50, Tryd.ntmps50
    go_wp2
    go_ret
    exact ⟨ret_bool e.out.symm, rfl⟩

theorem fits_eq (x d m : Int) (hd : 0 < d) (hm : m = d - 1) : (x / d == 0) = inB x 0 m := by
  unfold inB
  rw [Bool.eq_iff_iff, beq_iff_eq, decide_eq_true_iff]
  constructor
  · intro h
    have h1 := Int.mul_ediv_add_emod x d
    have h2 := Int.emod_nonneg x (Int.ne_of_gt hd)
    have h3 := Int.emod_lt_of_pos x hd
    rw [h, Int.mul_zero] at h1
    omega
  · rintro ⟨h1, h2⟩
    exact Int.ediv_eq_zero_of_lt h1 (by omega)
theorem mod4_eq (n : Nat) : ((n : Int) % 4 == 0) = (n % 4 == 0) := by
  rw [Bool.eq_iff_iff, beq_iff_eq, beq_iff_eq]
  omega
theorem fits1_walk (x : Int) (w : World) : Calls Tryd.prog 76 #[.int .i64 1, .int .i64 x] w fun e w' => e = .returned (.bool (inB x 0 255)) ∧ w' = w := by
  go_enter Tryd.func76, Tryd.ntmps76
  go_wp2
  go_ret
  exact ⟨ret_bool (fits_eq x 256 255 (by omega) (by omega)), rfl⟩
theorem fits2_walk (x : Int) (w : World) : Calls Tryd.prog 76 #[.int .i64 2, .int .i64 x] w fun e w' => e = .returned (.bool (inB x 0 65535)) ∧ w' = w := by
  go_enter Tryd.func76, Tryd.ntmps76
  go_wp2
  go_ret
  exact ⟨ret_bool (fits_eq x 65536 65535 (by omega) (by omega)), rfl⟩
def plB (x : Int) : Bool := inB x 0 65528 && (x % 8 == 0)
def ooB (n : Nat) : Bool := decide (n ≤ 40) && (n % 4 == 0)
theorem isPlace_walk (x : Int) (w : World) : Calls Tryd.prog 83 #[.int .i64 x] w fun e w' => e = .returned (.bool (plB x)) ∧ w' = w := by
  by_cases h1 : 0 ≤ x
  · by_cases h2 : x ≤ 65528
    · have E := hide (inB_iff.2 ⟨h1, h2⟩)
      go_enter Tryd.func83, Tryd.ntmps83
      go_wp2
      go_ret
      exact ⟨ret_bool (by unfold plB; rw [E.out, Bool.true_and]), rfl⟩
    · have E : Hid (inB x 0 65528 = false) := hide (by unfold inB; simp; omega)
      go_enter Tryd.func83, Tryd.ntmps83
      go_wp2
      go_ret
      exact ⟨ret_bool (by unfold plB; rw [E.out]; rfl), rfl⟩
  · have E : Hid (inB x 0 65528 = false) := hide (by unfold inB; simp; omega)
    go_enter Tryd.func83, Tryd.ntmps83
    go_wp2
    go_ret
    exact ⟨ret_bool (by unfold plB; rw [E.out]; rfl), rfl⟩
theorem validOptions_walk (a : Option Addr) (n cap : Nat) (w : World) (hm : n ≤ 1048576) : Calls Tryd.prog 84 #[.slice a n cap] w fun e w' => e = .returned (.bool (ooB n)) ∧ w' = w := by
  by_cases h1 : n ≤ 40
  · have h1' : (n : Int) ≤ 40 := by omega
    have E := hide h1
    go_enter Tryd.func84, Tryd.ntmps84
    go_wp2
    go_ret
    exact ⟨ret_bool (by unfold ooB; rw [decide_eq_true E.out, Bool.true_and]; exact mod4_eq n), rfl⟩
  · have h1' : ¬ (n : Int) ≤ 40 := by omega
    have E := hide h1
    clear h1
    go_enter Tryd.func84, Tryd.ntmps84
    go_wp2
    go_ret
    exact ⟨ret_bool (by unfold ooB; rw [decide_eq_false E.out]; rfl), rfl⟩
theorem within_walk (x : Int) (a : Option Addr) (n cap : Nat) (w : World) (hm : n ≤ 1048576) (h0 : 0 ≤ x) (h1 : x ≤ 65536) : Calls Tryd.prog 85 #[.int .i64 x, .slice a n cap] w fun e w' => e = .returned (.bool (decide (x + (n : Int) ≤ 65535))) ∧ w' = w := by
  go_enter Tryd.func85, Tryd.ntmps85
  go_wp2
  go_ret
  exact ⟨rfl, rfl⟩
theorem within_any (x : Int) (a : Option Addr) (n cap : Nat) (w : World) : Calls Tryd.prog 85 #[.int .i64 x, .slice a n cap] w fun e w' => (∃ b : Bool, e = .returned (.bool b)) ∧ w' = w := by
  go_enter Tryd.func85, Tryd.ntmps85
  go_wp2
  go_ret
  exact ⟨⟨_, rfl⟩, rfl⟩
theorem BoxPacket.b {w0 w : World} {x0 : Int} {x1 : Int} {x2 : Bool} {x3 : Bool} {x4 : Int} {x5 : Int} {x6 : Int} {x7 : Int} {x8 : Int} {v0 : Value} {v1 : Value} (h : BoxPacket w0 w x0 x1 x2 x3 x4 x5 x6 x7 x8 v0 v1) : Below w0.heap.size w0 w := h.1
theorem headLength_walk (x0 x1 : Int) (x2 x3 : Bool) (x4 x5 x6 x7 x8 : Int) (a0 : Option Addr) (n0 c0 : Nat) (a1 : Option Addr) (n1 c1 : Nat) (w : World) (m0 : n0 ≤ 1048576) :
    Calls Tryd.prog 86 #[.agg #[.int .i64 x0, .int .i64 x1, .bool x2, .bool x3, .int .i64 x4, .int .i64 x5, .int .i64 x6, .int .i64 x7, .int .i64 x8, .slice a0 n0 c0, .slice a1 n1 c1]] w fun e w' => e = .returned (.int .i64 (20 + (n0 : Int))) ∧ Below w.heap.size w w' := by
  have HB := hide (BoxPacket.start w x0 x1 x2 x3 x4 x5 x6 x7 x8 (.slice a0 n0 c0) (.slice a1 n1 c1) 47)
  obtain ⟨_, _, k0, k1, k2, k3, k4, k5, k6, k7, k8, k9, k10⟩ := HB.out
  go_enter Tryd.func86, Tryd.ntmps86
  go_wp2
  go_ret
  exact ⟨rfl, HB.out.1⟩
theorem headAndPayload_walk (x0 x1 : Int) (x2 x3 : Bool) (x4 x5 x6 x7 x8 : Int) (a0 : Option Addr) (n0 c0 : Nat) (a1 : Option Addr) (n1 c1 : Nat) (w : World) (m0 : n0 ≤ 1048576) (m1 : n1 ≤ 1048576) :
    Calls Tryd.prog 60 #[.agg #[.int .i64 x0, .int .i64 x1, .bool x2, .bool x3, .int .i64 x4, .int .i64 x5, .int .i64 x6, .int .i64 x7, .int .i64 x8, .slice a0 n0 c0, .slice a1 n1 c1]] w fun e w' => e = .returned (.int .i64 (20 + (n0 : Int) + (n1 : Int))) ∧ Below w.heap.size w w' := by
  have HB := hide (BoxPacket.start w x0 x1 x2 x3 x4 x5 x6 x7 x8 (.slice a0 n0 c0) (.slice a1 n1 c1) 47)
  have CL := hide (fun W => headLength_walk x0 x1 x2 x3 x4 x5 x6 x7 x8 a0 n0 c0 a1 n1 c1 W m0)
  obtain ⟨_, _, k0, k1, k2, k3, k4, k5, k6, k7, k8, k9, k10⟩ := HB.out
  go_enter Tryd.func60, Tryd.ntmps60
  go_wp2_with fail
  clear k0 k1 k2 k3 k4 k5 k6 k7 k8 k9 k10
  generalize w.alloc _ = W at *
  go_region_held3 (fun w' => BoxPacket w w' x0 x1 x2 x3 x4 x5 x6 x7 x8 (.slice a0 n0 c0) (.slice a1 n1 c1)) (first | assumption | exact BoxPacket.next (by assumption) (by assumption) | exact HB.out.drew)
      (first
        | (go_at_call 86; refine (CL.out _).mono ?_; rintro e w' ⟨rfl, hbp⟩))
  all_goals (go_wp2_with fail; go_ret; exact ⟨ret_int (wrap_i64' _ (by omega) (by omega)), BoxPacket.b (by assumption)⟩)
theorem pkOK_eight (x0 x1 x4 x5 x6 x7 x8 : Int) (n0 : Nat) : pkOK x0 x1 x4 x5 x6 x7 x8 n0 = (inB x0 0 255 && inB x5 0 255 && inB x6 0 255 && inB x1 0 65535 && plB x4 && adrB x7 && adrB x8 && ooB n0) := by
  unfold pkOK plB ooB
  simp only [Bool.and_assoc]
set_option maxHeartbeats 4000000 in
theorem validPacket_walk (x0 x1 : Int) (x2 x3 : Bool) (x4 x5 x6 x7 x8 : Int) (a0 : Option Addr) (n0 c0 : Nat) (a1 : Option Addr) (n1 c1 : Nat) (w : World) (m0 : n0 ≤ 1048576) :
    Calls Tryd.prog 58 #[.agg #[.int .i64 x0, .int .i64 x1, .bool x2, .bool x3, .int .i64 x4, .int .i64 x5, .int .i64 x6, .int .i64 x7, .int .i64 x8, .slice a0 n0 c0, .slice a1 n1 c1]] w fun e w' => e = .returned (.bool (pkOK x0 x1 x4 x5 x6 x7 x8 n0)) ∧ Below w.heap.size w w' := by
  have HB := hide (BoxPacket.start w x0 x1 x2 x3 x4 x5 x6 x7 x8 (.slice a0 n0 c0) (.slice a1 n1 c1) 47)
  obtain ⟨_, _, k0, k1, k2, k3, k4, k5, k6, k7, k8, k9, k10⟩ := HB.out
  cases h0 : inB x0 0 255 with
  | false =>
    have E : Hid (pkOK x0 x1 x4 x5 x6 x7 x8 n0 = false) := hide (by rw [pkOK_eight, h0]; simp)
    go_enter Tryd.func58, Tryd.ntmps58
    go_wp2_with (first | (go_at_call_of 76 (Value.int IntKind.i64 1); refine (fits1_walk _ _).mono ?_; rintro e w' ⟨rfl, rfl⟩) | (go_at_call_of 76 (Value.int IntKind.i64 2); refine (fits2_walk _ _).mono ?_; rintro e w' ⟨rfl, rfl⟩) | (go_at_call 83; refine (isPlace_walk _ _).mono ?_; rintro e w' ⟨rfl, rfl⟩) | (go_at_call 50; refine (isAddr_walk _ _).mono ?_; rintro e w' ⟨rfl, rfl⟩) | (go_at_call 84; refine (validOptions_walk _ _ _ _ m0).mono ?_; rintro e w' ⟨rfl, rfl⟩))
    go_ret
    exact ⟨ret_bool E.out.symm, HB.out.1⟩
  | true =>
    cases h1 : inB x5 0 255 with
    | false =>
      have E : Hid (pkOK x0 x1 x4 x5 x6 x7 x8 n0 = false) := hide (by rw [pkOK_eight, h1]; simp)
      go_enter Tryd.func58, Tryd.ntmps58
      go_wp2_with (first | (go_at_call_of 76 (Value.int IntKind.i64 1); refine (fits1_walk _ _).mono ?_; rintro e w' ⟨rfl, rfl⟩) | (go_at_call_of 76 (Value.int IntKind.i64 2); refine (fits2_walk _ _).mono ?_; rintro e w' ⟨rfl, rfl⟩) | (go_at_call 83; refine (isPlace_walk _ _).mono ?_; rintro e w' ⟨rfl, rfl⟩) | (go_at_call 50; refine (isAddr_walk _ _).mono ?_; rintro e w' ⟨rfl, rfl⟩) | (go_at_call 84; refine (validOptions_walk _ _ _ _ m0).mono ?_; rintro e w' ⟨rfl, rfl⟩))
      go_ret
      exact ⟨ret_bool E.out.symm, HB.out.1⟩
    | true =>
      cases h2 : inB x6 0 255 with
      | false =>
        have E : Hid (pkOK x0 x1 x4 x5 x6 x7 x8 n0 = false) := hide (by rw [pkOK_eight, h2]; simp)
        go_enter Tryd.func58, Tryd.ntmps58
        go_wp2_with (first | (go_at_call_of 76 (Value.int IntKind.i64 1); refine (fits1_walk _ _).mono ?_; rintro e w' ⟨rfl, rfl⟩) | (go_at_call_of 76 (Value.int IntKind.i64 2); refine (fits2_walk _ _).mono ?_; rintro e w' ⟨rfl, rfl⟩) | (go_at_call 83; refine (isPlace_walk _ _).mono ?_; rintro e w' ⟨rfl, rfl⟩) | (go_at_call 50; refine (isAddr_walk _ _).mono ?_; rintro e w' ⟨rfl, rfl⟩) | (go_at_call 84; refine (validOptions_walk _ _ _ _ m0).mono ?_; rintro e w' ⟨rfl, rfl⟩))
        go_ret
        exact ⟨ret_bool E.out.symm, HB.out.1⟩
      | true =>
        cases h3 : inB x1 0 65535 with
        | false =>
          have E : Hid (pkOK x0 x1 x4 x5 x6 x7 x8 n0 = false) := hide (by rw [pkOK_eight, h3]; simp)
          go_enter Tryd.func58, Tryd.ntmps58
          go_wp2_with (first | (go_at_call_of 76 (Value.int IntKind.i64 1); refine (fits1_walk _ _).mono ?_; rintro e w' ⟨rfl, rfl⟩) | (go_at_call_of 76 (Value.int IntKind.i64 2); refine (fits2_walk _ _).mono ?_; rintro e w' ⟨rfl, rfl⟩) | (go_at_call 83; refine (isPlace_walk _ _).mono ?_; rintro e w' ⟨rfl, rfl⟩) | (go_at_call 50; refine (isAddr_walk _ _).mono ?_; rintro e w' ⟨rfl, rfl⟩) | (go_at_call 84; refine (validOptions_walk _ _ _ _ m0).mono ?_; rintro e w' ⟨rfl, rfl⟩))
          go_ret
          exact ⟨ret_bool E.out.symm, HB.out.1⟩
        | true =>
          cases h4 : plB x4 with
          | false =>
            have E : Hid (pkOK x0 x1 x4 x5 x6 x7 x8 n0 = false) := hide (by rw [pkOK_eight, h4]; simp)
            go_enter Tryd.func58, Tryd.ntmps58
            go_wp2_with (first | (go_at_call_of 76 (Value.int IntKind.i64 1); refine (fits1_walk _ _).mono ?_; rintro e w' ⟨rfl, rfl⟩) | (go_at_call_of 76 (Value.int IntKind.i64 2); refine (fits2_walk _ _).mono ?_; rintro e w' ⟨rfl, rfl⟩) | (go_at_call 83; refine (isPlace_walk _ _).mono ?_; rintro e w' ⟨rfl, rfl⟩) | (go_at_call 50; refine (isAddr_walk _ _).mono ?_; rintro e w' ⟨rfl, rfl⟩) | (go_at_call 84; refine (validOptions_walk _ _ _ _ m0).mono ?_; rintro e w' ⟨rfl, rfl⟩))
            go_ret
            exact ⟨ret_bool E.out.symm, HB.out.1⟩
          | true =>
            cases h5 : adrB x7 with
            | false =>
              have E : Hid (pkOK x0 x1 x4 x5 x6 x7 x8 n0 = false) := hide (by rw [pkOK_eight, h5]; simp)
              go_enter Tryd.func58, Tryd.ntmps58
              go_wp2_with (first | (go_at_call_of 76 (Value.int IntKind.i64 1); refine (fits1_walk _ _).mono ?_; rintro e w' ⟨rfl, rfl⟩) | (go_at_call_of 76 (Value.int IntKind.i64 2); refine (fits2_walk _ _).mono ?_; rintro e w' ⟨rfl, rfl⟩) | (go_at_call 83; refine (isPlace_walk _ _).mono ?_; rintro e w' ⟨rfl, rfl⟩) | (go_at_call 50; refine (isAddr_walk _ _).mono ?_; rintro e w' ⟨rfl, rfl⟩) | (go_at_call 84; refine (validOptions_walk _ _ _ _ m0).mono ?_; rintro e w' ⟨rfl, rfl⟩))
              go_ret
              exact ⟨ret_bool E.out.symm, HB.out.1⟩
            | true =>
              cases h6 : adrB x8 with
              | false =>
                have E : Hid (pkOK x0 x1 x4 x5 x6 x7 x8 n0 = false) := hide (by rw [pkOK_eight, h6]; simp)
                go_enter Tryd.func58, Tryd.ntmps58
                go_wp2_with (first | (go_at_call_of 76 (Value.int IntKind.i64 1); refine (fits1_walk _ _).mono ?_; rintro e w' ⟨rfl, rfl⟩) | (go_at_call_of 76 (Value.int IntKind.i64 2); refine (fits2_walk _ _).mono ?_; rintro e w' ⟨rfl, rfl⟩) | (go_at_call 83; refine (isPlace_walk _ _).mono ?_; rintro e w' ⟨rfl, rfl⟩) | (go_at_call 50; refine (isAddr_walk _ _).mono ?_; rintro e w' ⟨rfl, rfl⟩) | (go_at_call 84; refine (validOptions_walk _ _ _ _ m0).mono ?_; rintro e w' ⟨rfl, rfl⟩))
                go_ret
                exact ⟨ret_bool E.out.symm, HB.out.1⟩
              | true =>
                cases h7 : ooB n0 with
                | false =>
                  have E : Hid (pkOK x0 x1 x4 x5 x6 x7 x8 n0 = false) := hide (by rw [pkOK_eight, h7]; simp)
                  go_enter Tryd.func58, Tryd.ntmps58
                  go_wp2_with (first | (go_at_call_of 76 (Value.int IntKind.i64 1); refine (fits1_walk _ _).mono ?_; rintro e w' ⟨rfl, rfl⟩) | (go_at_call_of 76 (Value.int IntKind.i64 2); refine (fits2_walk _ _).mono ?_; rintro e w' ⟨rfl, rfl⟩) | (go_at_call 83; refine (isPlace_walk _ _).mono ?_; rintro e w' ⟨rfl, rfl⟩) | (go_at_call 50; refine (isAddr_walk _ _).mono ?_; rintro e w' ⟨rfl, rfl⟩) | (go_at_call 84; refine (validOptions_walk _ _ _ _ m0).mono ?_; rintro e w' ⟨rfl, rfl⟩))
                  go_ret
                  exact ⟨ret_bool E.out.symm, HB.out.1⟩
                | true =>
                  have E : Hid (pkOK x0 x1 x4 x5 x6 x7 x8 n0 = true) := hide (by rw [pkOK_eight, h0, h1, h2, h3, h4, h5, h6, h7]; rfl)
                  go_enter Tryd.func58, Tryd.ntmps58
                  go_wp2_with (first | (go_at_call_of 76 (Value.int IntKind.i64 1); refine (fits1_walk _ _).mono ?_; rintro e w' ⟨rfl, rfl⟩) | (go_at_call_of 76 (Value.int IntKind.i64 2); refine (fits2_walk _ _).mono ?_; rintro e w' ⟨rfl, rfl⟩) | (go_at_call 83; refine (isPlace_walk _ _).mono ?_; rintro e w' ⟨rfl, rfl⟩) | (go_at_call 50; refine (isAddr_walk _ _).mono ?_; rintro e w' ⟨rfl, rfl⟩) | (go_at_call 84; refine (validOptions_walk _ _ _ _ m0).mono ?_; rintro e w' ⟨rfl, rfl⟩))
                  go_ret
                  exact ⟨ret_bool E.out.symm, HB.out.1⟩
end Go.Proofs.YtakoagfeiolkjabDoor
