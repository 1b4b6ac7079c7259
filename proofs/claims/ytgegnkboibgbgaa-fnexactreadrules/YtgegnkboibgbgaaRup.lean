/-
Contracts of functions of this seat.
-/
import Derived.Test.YtgegnkboibgbgaaRows
import Derived.WalkKit
import Derived.ProofKit
import Derived.OpenShut
import Derived.Test.YtgegnkboibgbgaaNmw
namespace Go.Proofs.Ytgegnkboibgbgaa
open Go.ChangeShapes Go.WideShapes Go.ChangeAt Go.RowKit
set_option linter.unusedVariables false
set_option maxRecDepth 100000
theorem portB_eq (l h : Int) : portB l h = (decide (0 ≤ l) && decide (l ≤ h) && decide (h ≤ 65535)) := by
  unfold portB inB
  rw [Bool.eq_iff_iff]
  simp only [Bool.and_eq_true, decide_eq_true_eq]
  omega
theorem validPorts_walk (l h : Int) (w : World) : Calls Try.prog 67 #[.int .i64 l, .int .i64 h] w fun e w' => e = .returned (.bool (portB l h)) ∧ w' = w := by
  have E := hide (portB_eq l h)
  by_cases h1 : 0 ≤ l
  · by_cases h2 : l ≤ h
    · by_cases h3 : h ≤ 65535
      · have E2 : Hid (portB l h = true) := hide (by rw [E.out, decide_eq_true h1, decide_eq_true h2, decide_eq_true h3]; rfl)
        go_enter Try.func67, Try.ntmps67
        go_wp2
        go_ret
        exact ⟨ret_bool E2.out.symm, rfl⟩
      · have E2 : Hid (portB l h = false) := hide (by rw [E.out, decide_eq_false h3, Bool.and_false])
        go_enter Try.func67, Try.ntmps67
        go_wp2
        go_ret
        exact ⟨ret_bool E2.out.symm, rfl⟩
    · have E2 : Hid (portB l h = false) := hide (by rw [E.out, decide_eq_false h2, Bool.and_false]; rfl)
      go_enter Try.func67, Try.ntmps67
      go_wp2
      go_ret
      exact ⟨ret_bool E2.out.symm, rfl⟩
  · have E2 : Hid (portB l h = false) := hide (by rw [E.out, decide_eq_false h1]; rfl)
    go_enter Try.func67, Try.ntmps67
    go_wp2
    go_ret
    exact ⟨ret_bool E2.out.symm, rfl⟩
theorem anyPort_walk (l h : Int) (w : World) : Calls Try.prog 81 #[.int .i64 l, .int .i64 h] w fun e w' => e = .returned (.bool (allP l h)) ∧ w' = w := by
  by_cases h1 : l = 0
  · by_cases h2 : h = 65535
    · subst h1 h2
      go_enter Try.func81, Try.ntmps81
      go_wp2
      go_ret
      exact ⟨rfl, rfl⟩
    · have E : Hid (allP l h = false) := hide (by unfold allP; rw [decide_eq_false h2, Bool.and_false])
      have h2b : (h == 65535) = false := beq_eq_false_iff_ne.2 h2
      subst h1
      clear h2
      go_enter Try.func81, Try.ntmps81
      go_wp2
      go_ret
      exact ⟨ret_bool E.out.symm, rfl⟩
  · have E : Hid (allP l h = false) := hide (by unfold allP; rw [decide_eq_false h1]; rfl)
    have h1b : (l == 0) = false := beq_eq_false_iff_ne.2 h1
    clear h1
    go_enter Try.func81, Try.ntmps81
    go_wp2
    go_ret
    exact ⟨ret_bool E.out.symm, rfl⟩
theorem hasPorts_walk (P : Int) (w : World) : Calls Try.prog 68 #[.int .i64 P] w fun e w' => e = .returned (.bool (decide (P = 6 ∨ P = 17))) ∧ w' = w := by
  by_cases h1 : P = 6
  · subst h1
    go_enter Try.func68, Try.ntmps68
    go_wp2
    go_ret
    exact ⟨rfl, rfl⟩
  · have h1b : (P == 6) = false := beq_eq_false_iff_ne.2 h1
    by_cases h2 : P = 17
    · subst h2
      go_enter Try.func68, Try.ntmps68
      go_wp2
      go_ret
      exact ⟨rfl, rfl⟩
    · have E : Hid (decide (P = 6 ∨ P = 17) = false) := hide (decide_eq_false (by omega))
      have h2b : (P == 17) = false := beq_eq_false_iff_ne.2 h2
      clear h1 h2
      go_enter Try.func68, Try.ntmps68
      go_wp2
      go_ret
      exact ⟨ret_bool E.out.symm, rfl⟩
set_option maxHeartbeats 1000000 in
theorem anyPorts_walk (A D P sa sb sl sh da db dl dh S : Int) (w : World) : Calls Try.prog 69 #[.agg #[.int .i64 A, .int .i64 D, .int .i64 P, .int .i64 sa, .int .i64 sb, .int .i64 sl, .int .i64 sh, .int .i64 da, .int .i64 db, .int .i64 dl, .int .i64 dh, .int .i64 S]] w fun e w' => e = .returned (.bool (allP sl sh && allP dl dh)) ∧ Below w.heap.size w w' := by
  have HB := hide (BoxV.start w #[.int .i64 A, .int .i64 D, .int .i64 P, .int .i64 sa, .int .i64 sb, .int .i64 sl, .int .i64 sh, .int .i64 da, .int .i64 db, .int .i64 dl, .int .i64 dh, .int .i64 S] 45)
  have k5 := HB.out.cell 5 _ rfl
  have k6 := HB.out.cell 6 _ rfl
  have k9 := HB.out.cell 9 _ rfl
  have k10 := HB.out.cell 10 _ rfl
  have C1 := hide (fun W => anyPort_walk sl sh W)
  have C2 := hide (fun W => anyPort_walk dl dh W)
  cases h1 : allP sl sh with
  | false =>
    rw [h1] at C1
    go_enter Try.func69, Try.ntmps69
    go_wp2_with (first | (go_at_call_of 81 (Value.int IntKind.i64 sl); refine (C1.out _).mono ?_; rintro e w' ⟨rfl, rfl⟩))
    go_ret
    exact ⟨rfl, HB.out.1⟩
  | true =>
    rw [h1] at C1
    generalize allP dl dh = b2 at *
    go_enter Try.func69, Try.ntmps69
    go_wp2_with (first | (go_at_call_of 81 (Value.int IntKind.i64 sl); refine (C1.out _).mono ?_; clear C1; rintro e w' ⟨rfl, rfl⟩) | (go_at_call 81; refine (C2.out _).mono ?_; clear C2; rintro e w' ⟨rfl, rfl⟩))
    go_ret
    exact ⟨rfl, HB.out.1⟩
end Go.Proofs.Ytgegnkboibgbgaa
