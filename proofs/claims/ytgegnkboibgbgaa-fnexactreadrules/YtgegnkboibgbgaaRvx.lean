/-
Contracts of functions of this seat.
-/
import Derived.Test.YtgegnkboibgbgaaRows
import Derived.WalkKit
import Derived.ProofKit
import Derived.OpenShut
import Derived.Test.YtgegnkboibgbgaaNmw
import Derived.Test.YtgegnkboibgbgaaPri
import Derived.Test.YtgegnkboibgbgaaRok
import Derived.Test.YtgegnkboibgbgaaRlx
namespace Go.Proofs.Ytgegnkboibgbgaa
open Go.ChangeShapes Go.WideShapes Go.ChangeAt Go.RowKit
set_option linter.unusedVariables false
set_option maxRecDepth 100000
theorem portB_eq (l h : Int) : portB l h = (decide (0 ≤ l) && decide (l ≤ h) && decide (h ≤ 65535)) := by
  unfold portB inB
  rw [Bool.eq_iff_iff]
  simp only [Bool.and_eq_true, decide_eq_true_eq]
  omega
theorem validPorts_walk (l h : Int) (w : World) : Calls Try.prog 67 #[.int .i64 l, .int .i64 h] w fun e w' => e = .returned (.bool (portB l h)) ∧ w' = w := by
  have E := hide (portB_eq l h)
  by_cases h1 : 0 ≤ l
  · by_cases h2 : l ≤ h
    · by_cases h3 : h ≤ 65535
      · have E2 : Hid (portB l h = true) := hide (by rw [E.out, decide_eq_true h1, decide_eq_true h2, decide_eq_true h3]; rfl)
        go_enter Try.func67, Try.ntmps67
        go_wp2
        go_ret
        exact ⟨ret_bool E2.out.symm, rfl⟩
      · have E2 : Hid (portB l h = false) := hide (by rw [E.out, decide_eq_false h3, Bool.and_false])
        go_enter Try.func67, Try.ntmps67
        go_wp2
        go_ret
        exact ⟨ret_bool E2.out.symm, rfl⟩
    · have E2 : Hid (portB l h = false) := hide (by rw [E.out, decide_eq_false h2, Bool.and_false]; rfl)
      go_enter Try.func67, Try.ntmps67
      go_wp2
      go_ret
      exact ⟨ret_bool E2.out.symm, rfl⟩
  · have E2 : Hid (portB l h = false) := hide (by rw [E.out, decide_eq_false h1]; rfl)
    go_enter Try.func67, Try.ntmps67
    go_wp2
    go_ret
    exact ⟨ret_bool E2.out.symm, rfl⟩
theorem anyPort_walk (l h : Int) (w : World) : Calls Try.prog 81 #[.int .i64 l, .int .i64 h] w fun e w' => e = .returned (.bool (allP l h)) ∧ w' = w := by
  by_cases h1 : l = 0
  · by_cases h2 : h = 65535
    · subst h1 h2
      go_enter Try.func81, Try.ntmps81
      go_wp2
      go_ret
      exact ⟨rfl, rfl⟩
    · have E : Hid (allP l h = false) := hide (by unfold allP; rw [decide_eq_false h2, Bool.and_false])
      have h2b : (h == 65535) = false := beq_eq_false_iff_ne.2 h2
      subst h1
      clear h2
      go_enter Try.func81, Try.ntmps81
      go_wp2
      go_ret
      exact ⟨ret_bool E.out.symm, rfl⟩
  · have E : Hid (allP l h = false) := hide (by unfold allP; rw [decide_eq_false h1]; rfl)
    have h1b : (l == 0) = false := beq_eq_false_iff_ne.2 h1
    clear h1
    go_enter Try.func81, Try.ntmps81
    go_wp2
    go_ret
    exact ⟨ret_bool E.out.symm, rfl⟩
theorem hasPorts_walk (P : Int) (w : World) : Calls Try.prog 68 #[.int .i64 P] w fun e w' => e = .returned (.bool (decide (P = 6 ∨ P = 17))) ∧ w' = w := by
  by_cases h1 : P = 6
  · subst h1
    go_enter Try.func68, Try.ntmps68
    go_wp2
    go_ret
    exact ⟨rfl, rfl⟩
  · have h1b : (P == 6) = false := beq_eq_false_iff_ne.2 h1
    by_cases h2 : P = 17
    · subst h2
      go_enter Try.func68, Try.ntmps68
      go_wp2
      go_ret
      exact ⟨rfl, rfl⟩
    · have E : Hid (decide (P = 6 ∨ P = 17) = false) := hide (decide_eq_false (by omega))
      have h2b : (P == 17) = false := beq_eq_false_iff_ne.2 h2
      clear h1 h2
      go_enter Try.func68, Try.ntmps68
      go_wp2
      go_ret
      exact ⟨ret_bool E.out.symm, rfl⟩
set_option maxHeartbeats 1000000 in
theorem anyPorts_walk (A D P sa sb sl sh da db dl dh S : Int) (w : World) : Calls Try.prog 69 #[.agg #[.int .i64 A, .int .i64 D, .int .i64 P, .int .i64 sa, .int .i64 sb, .int .i64 sl, .int .i64 sh, .int .i64 da, .int .i64 db, .int .i64 dl, .int .i64 dh, .int .i64 S]] w fun e w' => e = .returned (.bool (allP sl sh && allP dl dh)) ∧ Below w.heap.size w w' := by
  have HB := hide (BoxV.start w #[.int .i64 A, .int .i64 D, .int .i64 P, .int .i64 sa, .int .i64 sb, .int .i64 sl, .int .i64 sh, .int .i64 da, .int .i64 db, .int .i64 dl, .int .i64 dh, .int .i64 S] 45)
  have k5 := HB.out.cell 5 _ rfl
  have k6 := HB.out.cell 6 _ rfl
  have k9 := HB.out.cell 9 _ rfl
  have k10 := HB.out.cell 10 _ rfl
  have C1 := hide (fun W => anyPort_walk sl sh W)
  have C2 := hide (fun W => anyPort_walk dl dh W)
  cases h1 : allP sl sh with
  | false =>
    rw [h1] at C1
    go_enter Try.func69, Try.ntmps69
    go_wp2_with (first | (go_at_call_of 81 (Value.int IntKind.i64 sl); refine (C1.out _).mono ?_; rintro e w' ⟨rfl, rfl⟩))
    go_ret
    exact ⟨rfl, HB.out.1⟩
  | true =>
    rw [h1] at C1
    generalize allP dl dh = b2 at *
    go_enter Try.func69, Try.ntmps69
    go_wp2_with (first | (go_at_call_of 81 (Value.int IntKind.i64 sl); refine (C1.out _).mono ?_; clear C1; rintro e w' ⟨rfl, rfl⟩) | (go_at_call 81; refine (C2.out _).mono ?_; clear C2; rintro e w' ⟨rfl, rfl⟩))
    go_ret
    exact ⟨rfl, HB.out.1⟩

theorem specPort_walk (p : Int) (w : World) : Calls Try.prog 78 #[.int .i64 p] w fun e w' => e = .returned (.bool (inB p 0 65535)) ∧ w' = w := by
  have C := hide (fun W => In_walk p 0 65535 W)
  generalize inB p 0 65535 = b at *
  go_enter Try.func78, Try.ntmps78
  go_wp2_with (go_at_call 53; refine (C.out _).mono ?_; rintro e w' ⟨rfl, rfl⟩)
  go_ret
  exact ⟨rfl, rfl⟩
theorem specPorts_walk (l h : Int) (w : World) : Calls Try.prog 63 #[.int .i64 l, .int .i64 h] w fun e w' => e = .returned (.bool (portB l h)) ∧ w' = w := by
  have C1 := hide (fun W => specPort_walk l W)
  have C2 := hide (fun W => specPort_walk h W)
  cases h1 : inB l 0 65535 with
  | false =>
    have E : Hid (portB l h = false) := hide (by unfold portB; rw [h1]; rfl)
    rw [h1] at C1
    go_enter Try.func63, Try.ntmps63
    go_wp2_with (go_at_call 78; refine (C1.out _).mono ?_; rintro e w' ⟨rfl, rfl⟩)
    go_ret
    exact ⟨ret_bool E.out.symm, rfl⟩
  | true =>
    rw [h1] at C1
    cases h2 : inB h 0 65535 with
    | false =>
      have E : Hid (portB l h = false) := hide (by unfold portB; rw [h1, h2]; rfl)
      rw [h2] at C2
      go_enter Try.func63, Try.ntmps63
      go_wp2_with (first | (go_at_call_of 78 (Value.int IntKind.i64 l); refine (C1.out _).mono ?_; clear C1; rintro e w' ⟨rfl, rfl⟩) | (go_at_call 78; refine (C2.out _).mono ?_; clear C2; rintro e w' ⟨rfl, rfl⟩))
      go_ret
      exact ⟨ret_bool E.out.symm, rfl⟩
    | true =>
      have E : Hid (portB l h = decide (l ≤ h)) := hide (by unfold portB; rw [h1, h2]; rfl)
      rw [h2] at C2
      clear h1 h2
      go_enter Try.func63, Try.ntmps63
      go_wp2_with (first | (go_at_call_of 78 (Value.int IntKind.i64 l); refine (C1.out _).mono ?_; clear C1; rintro e w' ⟨rfl, rfl⟩) | (go_at_call 78; refine (C2.out _).mono ?_; clear C2; rintro e w' ⟨rfl, rfl⟩))
      go_ret
      exact ⟨ret_bool E.out.symm, rfl⟩
theorem specAll_walk (l h : Int) (w : World) : Calls Try.prog 64 #[.int .i64 l, .int .i64 h] w fun e w' => e = .returned (.bool (allP l h)) ∧ w' = w := by
  by_cases h1 : l = 0
  · by_cases h2 : h = 65535
    · subst h1 h2
      go_enter Try.func64, Try.ntmps64
      go_wp2
      go_ret
      exact ⟨rfl, rfl⟩
    · have E : Hid (allP l h = false) := hide (by unfold allP; rw [decide_eq_false h2, Bool.and_false])
      have h2b : (h == 65535) = false := beq_eq_false_iff_ne.2 h2
      subst h1
      clear h2
      go_enter Try.func64, Try.ntmps64
      go_wp2
      go_ret
      exact ⟨ret_bool E.out.symm, rfl⟩
  · have E : Hid (allP l h = false) := hide (by unfold allP; rw [decide_eq_false h1]; rfl)
    have h1b : (l == 0) = false := beq_eq_false_iff_ne.2 h1
    clear h1
    go_enter Try.func64, Try.ntmps64
    go_wp2
    go_ret
    exact ⟨ret_bool E.out.symm, rfl⟩
set_option maxHeartbeats 16000000 in
theorem specRuOK_walk (A D P sa sb sl sh da db dl dh S : Int) (w : World) : Calls Try.prog 41 #[.agg #[.int .i64 A, .int .i64 D, .int .i64 P, .int .i64 sa, .int .i64 sb, .int .i64 sl, .int .i64 sh, .int .i64 da, .int .i64 db, .int .i64 dl, .int .i64 dh, .int .i64 S]] w fun e w' => e = .returned (.bool (ruOK A D P sa sb sl sh da db dl dh S)) ∧ Below w.heap.size w w' := by
  have HB := hide (BoxV.start w #[.int .i64 A, .int .i64 D, .int .i64 P, .int .i64 sa, .int .i64 sb, .int .i64 sl, .int .i64 sh, .int .i64 da, .int .i64 db, .int .i64 dl, .int .i64 dh, .int .i64 S] 45)
  have k0 := HB.out.cell 0 _ rfl
  have k1 := HB.out.cell 1 _ rfl
  have k2 := HB.out.cell 2 _ rfl
  have k3 := HB.out.cell 3 _ rfl
  have k4 := HB.out.cell 4 _ rfl
  have k5 := HB.out.cell 5 _ rfl
  have k6 := HB.out.cell 6 _ rfl
  have k7 := HB.out.cell 7 _ rfl
  have k8 := HB.out.cell 8 _ rfl
  have k9 := HB.out.cell 9 _ rfl
  have k10 := HB.out.cell 10 _ rfl
  have k11 := HB.out.cell 11 _ rfl
  have CA := hide (fun W => In_walk A 1 3 W)
  have CD := hide (fun W => In_walk D 1 3 W)
  have CS := hide (fun W => In_walk S 0 4 W)
  have CP := hide (fun W => specPrefixOK_walk sa sb W)
  have CQ := hide (fun W => specPrefixOK_walk da db W)
  have CO := hide (fun W => specPorts_walk sl sh W)
  have CT := hide (fun W => specPorts_walk dl dh W)
  cases hA : inB A 1 3 with
  | false =>
    have E : Hid (ruOK A D P sa sb sl sh da db dl dh S = false) := hide (by unfold ruOK; rw [hA]; rfl)
    rw [hA] at CA
    go_enter Try.func41, Try.ntmps41
    go_wp2_with (first | (go_at_call_of 53 (Value.int IntKind.i64 A); refine (CA.out _).mono ?_; clear CA; rintro e w' ⟨rfl, rfl⟩))
    go_ret
    exact ⟨ret_bool E.out.symm, HB.out.1⟩
  | true =>
    rw [hA] at CA
    cases hD : inB D 1 3 with
    | false =>
      have E : Hid (ruOK A D P sa sb sl sh da db dl dh S = false) := hide (by unfold ruOK; rw [hA, hD]; rfl)
      rw [hD] at CD
      go_enter Try.func41, Try.ntmps41
      go_wp2_with (first | (go_at_call_of 53 (Value.int IntKind.i64 A); refine (CA.out _).mono ?_; clear CA; rintro e w' ⟨rfl, rfl⟩) | (go_at_call_of 53 (Value.int IntKind.i64 D); refine (CD.out _).mono ?_; clear CD; rintro e w' ⟨rfl, rfl⟩))
      go_ret
      exact ⟨ret_bool E.out.symm, HB.out.1⟩
    | true =>
      rw [hD] at CD
      cases hS : inB S 0 4 with
      | false =>
        have E : Hid (ruOK A D P sa sb sl sh da db dl dh S = false) := hide (by unfold ruOK; rw [hA, hD, hS]; rfl)
        rw [hS] at CS
        go_enter Try.func41, Try.ntmps41
        go_wp2_with (first | (go_at_call_of 53 (Value.int IntKind.i64 A); refine (CA.out _).mono ?_; clear CA; rintro e w' ⟨rfl, rfl⟩) | (go_at_call_of 53 (Value.int IntKind.i64 D); refine (CD.out _).mono ?_; clear CD; rintro e w' ⟨rfl, rfl⟩) | (go_at_call_of 53 (Value.int IntKind.i64 S); refine (CS.out _).mono ?_; clear CS; rintro e w' ⟨rfl, rfl⟩))
        go_ret
        exact ⟨ret_bool E.out.symm, HB.out.1⟩
      | true =>
        rw [hS] at CS
        cases hp : prefB sa sb with
        | false =>
          have E : Hid (ruOK A D P sa sb sl sh da db dl dh S = false) := hide (by unfold ruOK; rw [hA, hD, hS, hp]; rfl)
          rw [hp] at CP
          go_enter Try.func41, Try.ntmps41
          go_wp2_with (first | (go_at_call_of 53 (Value.int IntKind.i64 A); refine (CA.out _).mono ?_; clear CA; rintro e w' ⟨rfl, rfl⟩) | (go_at_call_of 53 (Value.int IntKind.i64 D); refine (CD.out _).mono ?_; clear CD; rintro e w' ⟨rfl, rfl⟩) | (go_at_call_of 53 (Value.int IntKind.i64 S); refine (CS.out _).mono ?_; clear CS; rintro e w' ⟨rfl, rfl⟩) | (go_at_call 50; refine (CP.out _).mono ?_; clear CP; rintro e w1 ⟨rfl, hb1⟩; have HB1 := hide (HB.out.next hb1); clear hb1; have j0 := HB1.out.cell 0 _ rfl; have j1 := HB1.out.cell 1 _ rfl; have j2 := HB1.out.cell 2 _ rfl; have j3 := HB1.out.cell 3 _ rfl; have j4 := HB1.out.cell 4 _ rfl; have j5 := HB1.out.cell 5 _ rfl; have j6 := HB1.out.cell 6 _ rfl; have j7 := HB1.out.cell 7 _ rfl; have j8 := HB1.out.cell 8 _ rfl; have j9 := HB1.out.cell 9 _ rfl; have j10 := HB1.out.cell 10 _ rfl; have j11 := HB1.out.cell 11 _ rfl))
          go_ret
          exact ⟨ret_bool E.out.symm, HB1.out.1⟩
        | true =>
          rw [hp] at CP
          cases hq : prefB da db with
          | false =>
            have E : Hid (ruOK A D P sa sb sl sh da db dl dh S = false) := hide (by unfold ruOK; rw [hA, hD, hS, hp, hq]; rfl)
            rw [hq] at CQ
            go_enter Try.func41, Try.ntmps41
            go_wp2_with (first | (go_at_call_of 53 (Value.int IntKind.i64 A); refine (CA.out _).mono ?_; clear CA; rintro e w' ⟨rfl, rfl⟩) | (go_at_call_of 53 (Value.int IntKind.i64 D); refine (CD.out _).mono ?_; clear CD; rintro e w' ⟨rfl, rfl⟩) | (go_at_call_of 53 (Value.int IntKind.i64 S); refine (CS.out _).mono ?_; clear CS; rintro e w' ⟨rfl, rfl⟩) | (go_at_call 50; refine (CP.out _).mono ?_; clear CP; rintro e w1 ⟨rfl, hb1⟩; have HB1 := hide (HB.out.next hb1); clear hb1; have j0 := HB1.out.cell 0 _ rfl; have j1 := HB1.out.cell 1 _ rfl; have j2 := HB1.out.cell 2 _ rfl; have j3 := HB1.out.cell 3 _ rfl; have j4 := HB1.out.cell 4 _ rfl; have j5 := HB1.out.cell 5 _ rfl; have j6 := HB1.out.cell 6 _ rfl; have j7 := HB1.out.cell 7 _ rfl; have j8 := HB1.out.cell 8 _ rfl; have j9 := HB1.out.cell 9 _ rfl; have j10 := HB1.out.cell 10 _ rfl; have j11 := HB1.out.cell 11 _ rfl) | (go_at_call 50; refine (CQ.out _).mono ?_; clear CQ; rintro e w2 ⟨rfl, hb2⟩; have HB2 := hide (HB1.out.next hb2); clear hb2; have i0 := HB2.out.cell 0 _ rfl; have i1 := HB2.out.cell 1 _ rfl; have i2 := HB2.out.cell 2 _ rfl; have i3 := HB2.out.cell 3 _ rfl; have i4 := HB2.out.cell 4 _ rfl; have i5 := HB2.out.cell 5 _ rfl; have i6 := HB2.out.cell 6 _ rfl; have i7 := HB2.out.cell 7 _ rfl; have i8 := HB2.out.cell 8 _ rfl; have i9 := HB2.out.cell 9 _ rfl; have i10 := HB2.out.cell 10 _ rfl; have i11 := HB2.out.cell 11 _ rfl))
            go_ret
            exact ⟨ret_bool E.out.symm, HB2.out.1⟩
          | true =>
            rw [hq] at CQ
            cases hs : portB sl sh with
            | false =>
              have E : Hid (ruOK A D P sa sb sl sh da db dl dh S = false) := hide (by unfold ruOK; rw [hA, hD, hS, hp, hq, hs]; rfl)
              rw [hs] at CO
              go_enter Try.func41, Try.ntmps41
              go_wp2_with (first | (go_at_call_of 53 (Value.int IntKind.i64 A); refine (CA.out _).mono ?_; clear CA; rintro e w' ⟨rfl, rfl⟩) | (go_at_call_of 53 (Value.int IntKind.i64 D); refine (CD.out _).mono ?_; clear CD; rintro e w' ⟨rfl, rfl⟩) | (go_at_call_of 53 (Value.int IntKind.i64 S); refine (CS.out _).mono ?_; clear CS; rintro e w' ⟨rfl, rfl⟩) | (go_at_call 50; refine (CP.out _).mono ?_; clear CP; rintro e w1 ⟨rfl, hb1⟩; have HB1 := hide (HB.out.next hb1); clear hb1; have j0 := HB1.out.cell 0 _ rfl; have j1 := HB1.out.cell 1 _ rfl; have j2 := HB1.out.cell 2 _ rfl; have j3 := HB1.out.cell 3 _ rfl; have j4 := HB1.out.cell 4 _ rfl; have j5 := HB1.out.cell 5 _ rfl; have j6 := HB1.out.cell 6 _ rfl; have j7 := HB1.out.cell 7 _ rfl; have j8 := HB1.out.cell 8 _ rfl; have j9 := HB1.out.cell 9 _ rfl; have j10 := HB1.out.cell 10 _ rfl; have j11 := HB1.out.cell 11 _ rfl) | (go_at_call 50; refine (CQ.out _).mono ?_; clear CQ; rintro e w2 ⟨rfl, hb2⟩; have HB2 := hide (HB1.out.next hb2); clear hb2; have i0 := HB2.out.cell 0 _ rfl; have i1 := HB2.out.cell 1 _ rfl; have i2 := HB2.out.cell 2 _ rfl; have i3 := HB2.out.cell 3 _ rfl; have i4 := HB2.out.cell 4 _ rfl; have i5 := HB2.out.cell 5 _ rfl; have i6 := HB2.out.cell 6 _ rfl; have i7 := HB2.out.cell 7 _ rfl; have i8 := HB2.out.cell 8 _ rfl; have i9 := HB2.out.cell 9 _ rfl; have i10 := HB2.out.cell 10 _ rfl; have i11 := HB2.out.cell 11 _ rfl) | (go_at_call_of 63 (Value.int IntKind.i64 sl); refine (CO.out _).mono ?_; clear CO; rintro e w' ⟨rfl, rfl⟩))
              go_ret
              exact ⟨ret_bool E.out.symm, HB2.out.1⟩
            | true =>
              rw [hs] at CO
              cases hd : portB dl dh with
              | false =>
                have E : Hid (ruOK A D P sa sb sl sh da db dl dh S = false) := hide (by unfold ruOK; rw [hA, hD, hS, hp, hq, hs, hd]; rfl)
                rw [hd] at CT
                go_enter Try.func41, Try.ntmps41
                go_wp2_with (first | (go_at_call_of 53 (Value.int IntKind.i64 A); refine (CA.out _).mono ?_; clear CA; rintro e w' ⟨rfl, rfl⟩) | (go_at_call_of 53 (Value.int IntKind.i64 D); refine (CD.out _).mono ?_; clear CD; rintro e w' ⟨rfl, rfl⟩) | (go_at_call_of 53 (Value.int IntKind.i64 S); refine (CS.out _).mono ?_; clear CS; rintro e w' ⟨rfl, rfl⟩) | (go_at_call 50; refine (CP.out _).mono ?_; clear CP; rintro e w1 ⟨rfl, hb1⟩; have HB1 := hide (HB.out.next hb1); clear hb1; have j0 := HB1.out.cell 0 _ rfl; have j1 := HB1.out.cell 1 _ rfl; have j2 := HB1.out.cell 2 _ rfl; have j3 := HB1.out.cell 3 _ rfl; have j4 := HB1.out.cell 4 _ rfl; have j5 := HB1.out.cell 5 _ rfl; have j6 := HB1.out.cell 6 _ rfl; have j7 := HB1.out.cell 7 _ rfl; have j8 := HB1.out.cell 8 _ rfl; have j9 := HB1.out.cell 9 _ rfl; have j10 := HB1.out.cell 10 _ rfl; have j11 := HB1.out.cell 11 _ rfl) | (go_at_call 50; refine (CQ.out _).mono ?_; clear CQ; rintro e w2 ⟨rfl, hb2⟩; have HB2 := hide (HB1.out.next hb2); clear hb2; have i0 := HB2.out.cell 0 _ rfl; have i1 := HB2.out.cell 1 _ rfl; have i2 := HB2.out.cell 2 _ rfl; have i3 := HB2.out.cell 3 _ rfl; have i4 := HB2.out.cell 4 _ rfl; have i5 := HB2.out.cell 5 _ rfl; have i6 := HB2.out.cell 6 _ rfl; have i7 := HB2.out.cell 7 _ rfl; have i8 := HB2.out.cell 8 _ rfl; have i9 := HB2.out.cell 9 _ rfl; have i10 := HB2.out.cell 10 _ rfl; have i11 := HB2.out.cell 11 _ rfl) | (go_at_call_of 63 (Value.int IntKind.i64 sl); refine (CO.out _).mono ?_; clear CO; rintro e w' ⟨rfl, rfl⟩) | (go_at_call 63; refine (CT.out _).mono ?_; clear CT; rintro e w' ⟨rfl, rfl⟩))
                go_ret
                exact ⟨ret_bool E.out.symm, HB2.out.1⟩
              | true =>
                rw [hd] at CT
                have E0 : Hid (ruOK A D P sa sb sl sh da db dl dh S = protB P (allP sl sh && allP dl dh)) := hide (by unfold ruOK; rw [hA, hD, hS, hp, hq, hs, hd]; rfl)
                clear hA hD hS hp hq hs hd
                have CX := hide (fun W => specAll_walk sl sh W)
                have CY := hide (fun W => specAll_walk dl dh W)
                by_cases h6 : P = 6
                · subst h6
                  have E : Hid (ruOK A D 6 sa sb sl sh da db dl dh S = true) := hide (by rw [E0.out]; rfl)
                  go_enter Try.func41, Try.ntmps41
                  go_wp2_with (first | (go_at_call_of 53 (Value.int IntKind.i64 A); refine (CA.out _).mono ?_; clear CA; rintro e w' ⟨rfl, rfl⟩) | (go_at_call_of 53 (Value.int IntKind.i64 D); refine (CD.out _).mono ?_; clear CD; rintro e w' ⟨rfl, rfl⟩) | (go_at_call_of 53 (Value.int IntKind.i64 S); refine (CS.out _).mono ?_; clear CS; rintro e w' ⟨rfl, rfl⟩) | (go_at_call 50; refine (CP.out _).mono ?_; clear CP; rintro e w1 ⟨rfl, hb1⟩; have HB1 := hide (HB.out.next hb1); clear hb1; have j0 := HB1.out.cell 0 _ rfl; have j1 := HB1.out.cell 1 _ rfl; have j2 := HB1.out.cell 2 _ rfl; have j3 := HB1.out.cell 3 _ rfl; have j4 := HB1.out.cell 4 _ rfl; have j5 := HB1.out.cell 5 _ rfl; have j6 := HB1.out.cell 6 _ rfl; have j7 := HB1.out.cell 7 _ rfl; have j8 := HB1.out.cell 8 _ rfl; have j9 := HB1.out.cell 9 _ rfl; have j10 := HB1.out.cell 10 _ rfl; have j11 := HB1.out.cell 11 _ rfl) | (go_at_call 50; refine (CQ.out _).mono ?_; clear CQ; rintro e w2 ⟨rfl, hb2⟩; have HB2 := hide (HB1.out.next hb2); clear hb2; have i0 := HB2.out.cell 0 _ rfl; have i1 := HB2.out.cell 1 _ rfl; have i2 := HB2.out.cell 2 _ rfl; have i3 := HB2.out.cell 3 _ rfl; have i4 := HB2.out.cell 4 _ rfl; have i5 := HB2.out.cell 5 _ rfl; have i6 := HB2.out.cell 6 _ rfl; have i7 := HB2.out.cell 7 _ rfl; have i8 := HB2.out.cell 8 _ rfl; have i9 := HB2.out.cell 9 _ rfl; have i10 := HB2.out.cell 10 _ rfl; have i11 := HB2.out.cell 11 _ rfl) | (go_at_call_of 63 (Value.int IntKind.i64 sl); refine (CO.out _).mono ?_; clear CO; rintro e w' ⟨rfl, rfl⟩) | (go_at_call 63; refine (CT.out _).mono ?_; clear CT; rintro e w' ⟨rfl, rfl⟩))
                  go_ret
                  exact ⟨ret_bool E.out.symm, HB2.out.1⟩
                have b6 : (P == 6) = false := beq_eq_false_iff_ne.2 h6
                by_cases h17 : P = 17
                · subst h17
                  have E : Hid (ruOK A D 17 sa sb sl sh da db dl dh S = true) := hide (by rw [E0.out]; rfl)
                  go_enter Try.func41, Try.ntmps41
                  go_wp2_with (first | (go_at_call_of 53 (Value.int IntKind.i64 A); refine (CA.out _).mono ?_; clear CA; rintro e w' ⟨rfl, rfl⟩) | (go_at_call_of 53 (Value.int IntKind.i64 D); refine (CD.out _).mono ?_; clear CD; rintro e w' ⟨rfl, rfl⟩) | (go_at_call_of 53 (Value.int IntKind.i64 S); refine (CS.out _).mono ?_; clear CS; rintro e w' ⟨rfl, rfl⟩) | (go_at_call 50; refine (CP.out _).mono ?_; clear CP; rintro e w1 ⟨rfl, hb1⟩; have HB1 := hide (HB.out.next hb1); clear hb1; have j0 := HB1.out.cell 0 _ rfl; have j1 := HB1.out.cell 1 _ rfl; have j2 := HB1.out.cell 2 _ rfl; have j3 := HB1.out.cell 3 _ rfl; have j4 := HB1.out.cell 4 _ rfl; have j5 := HB1.out.cell 5 _ rfl; have j6 := HB1.out.cell 6 _ rfl; have j7 := HB1.out.cell 7 _ rfl; have j8 := HB1.out.cell 8 _ rfl; have j9 := HB1.out.cell 9 _ rfl; have j10 := HB1.out.cell 10 _ rfl; have j11 := HB1.out.cell 11 _ rfl) | (go_at_call 50; refine (CQ.out _).mono ?_; clear CQ; rintro e w2 ⟨rfl, hb2⟩; have HB2 := hide (HB1.out.next hb2); clear hb2; have i0 := HB2.out.cell 0 _ rfl; have i1 := HB2.out.cell 1 _ rfl; have i2 := HB2.out.cell 2 _ rfl; have i3 := HB2.out.cell 3 _ rfl; have i4 := HB2.out.cell 4 _ rfl; have i5 := HB2.out.cell 5 _ rfl; have i6 := HB2.out.cell 6 _ rfl; have i7 := HB2.out.cell 7 _ rfl; have i8 := HB2.out.cell 8 _ rfl; have i9 := HB2.out.cell 9 _ rfl; have i10 := HB2.out.cell 10 _ rfl; have i11 := HB2.out.cell 11 _ rfl) | (go_at_call_of 63 (Value.int IntKind.i64 sl); refine (CO.out _).mono ?_; clear CO; rintro e w' ⟨rfl, rfl⟩) | (go_at_call 63; refine (CT.out _).mono ?_; clear CT; rintro e w' ⟨rfl, rfl⟩))
                  go_ret
                  exact ⟨ret_bool E.out.symm, HB2.out.1⟩
                have b17 : (P == 17) = false := beq_eq_false_iff_ne.2 h17
                by_cases h0 : P = 0
                · subst h0
                  have E1 : Hid (ruOK A D 0 sa sb sl sh da db dl dh S = (allP sl sh && allP dl dh)) := hide (by rw [E0.out]; rfl)
                  cases hx : allP sl sh with
                  | false =>
                    have E : Hid (ruOK A D 0 sa sb sl sh da db dl dh S = false) := hide (by rw [E1.out, hx]; rfl)
                    rw [hx] at CX
                    go_enter Try.func41, Try.ntmps41
                    go_wp2_with (first | (go_at_call_of 53 (Value.int IntKind.i64 A); refine (CA.out _).mono ?_; clear CA; rintro e w' ⟨rfl, rfl⟩) | (go_at_call_of 53 (Value.int IntKind.i64 D); refine (CD.out _).mono ?_; clear CD; rintro e w' ⟨rfl, rfl⟩) | (go_at_call_of 53 (Value.int IntKind.i64 S); refine (CS.out _).mono ?_; clear CS; rintro e w' ⟨rfl, rfl⟩) | (go_at_call 50; refine (CP.out _).mono ?_; clear CP; rintro e w1 ⟨rfl, hb1⟩; have HB1 := hide (HB.out.next hb1); clear hb1; have j0 := HB1.out.cell 0 _ rfl; have j1 := HB1.out.cell 1 _ rfl; have j2 := HB1.out.cell 2 _ rfl; have j3 := HB1.out.cell 3 _ rfl; have j4 := HB1.out.cell 4 _ rfl; have j5 := HB1.out.cell 5 _ rfl; have j6 := HB1.out.cell 6 _ rfl; have j7 := HB1.out.cell 7 _ rfl; have j8 := HB1.out.cell 8 _ rfl; have j9 := HB1.out.cell 9 _ rfl; have j10 := HB1.out.cell 10 _ rfl; have j11 := HB1.out.cell 11 _ rfl) | (go_at_call 50; refine (CQ.out _).mono ?_; clear CQ; rintro e w2 ⟨rfl, hb2⟩; have HB2 := hide (HB1.out.next hb2); clear hb2; have i0 := HB2.out.cell 0 _ rfl; have i1 := HB2.out.cell 1 _ rfl; have i2 := HB2.out.cell 2 _ rfl; have i3 := HB2.out.cell 3 _ rfl; have i4 := HB2.out.cell 4 _ rfl; have i5 := HB2.out.cell 5 _ rfl; have i6 := HB2.out.cell 6 _ rfl; have i7 := HB2.out.cell 7 _ rfl; have i8 := HB2.out.cell 8 _ rfl; have i9 := HB2.out.cell 9 _ rfl; have i10 := HB2.out.cell 10 _ rfl; have i11 := HB2.out.cell 11 _ rfl) | (go_at_call_of 63 (Value.int IntKind.i64 sl); refine (CO.out _).mono ?_; clear CO; rintro e w' ⟨rfl, rfl⟩) | (go_at_call 63; refine (CT.out _).mono ?_; clear CT; rintro e w' ⟨rfl, rfl⟩) | (go_at_call_of 64 (Value.int IntKind.i64 sl); refine (CX.out _).mono ?_; clear CX; rintro e w' ⟨rfl, rfl⟩))
                    go_ret
                    exact ⟨ret_bool E.out.symm, HB2.out.1⟩
                  | true =>
                    have E : Hid (ruOK A D 0 sa sb sl sh da db dl dh S = allP dl dh) := hide (by rw [E1.out, hx]; rfl)
                    rw [hx] at CX
                    clear hx E0 E1
                    generalize allP dl dh = y at *
                    go_enter Try.func41, Try.ntmps41
                    go_wp2_with (first | (go_at_call_of 53 (Value.int IntKind.i64 A); refine (CA.out _).mono ?_; clear CA; rintro e w' ⟨rfl, rfl⟩) | (go_at_call_of 53 (Value.int IntKind.i64 D); refine (CD.out _).mono ?_; clear CD; rintro e w' ⟨rfl, rfl⟩) | (go_at_call_of 53 (Value.int IntKind.i64 S); refine (CS.out _).mono ?_; clear CS; rintro e w' ⟨rfl, rfl⟩) | (go_at_call 50; refine (CP.out _).mono ?_; clear CP; rintro e w1 ⟨rfl, hb1⟩; have HB1 := hide (HB.out.next hb1); clear hb1; have j0 := HB1.out.cell 0 _ rfl; have j1 := HB1.out.cell 1 _ rfl; have j2 := HB1.out.cell 2 _ rfl; have j3 := HB1.out.cell 3 _ rfl; have j4 := HB1.out.cell 4 _ rfl; have j5 := HB1.out.cell 5 _ rfl; have j6 := HB1.out.cell 6 _ rfl; have j7 := HB1.out.cell 7 _ rfl; have j8 := HB1.out.cell 8 _ rfl; have j9 := HB1.out.cell 9 _ rfl; have j10 := HB1.out.cell 10 _ rfl; have j11 := HB1.out.cell 11 _ rfl) | (go_at_call 50; refine (CQ.out _).mono ?_; clear CQ; rintro e w2 ⟨rfl, hb2⟩; have HB2 := hide (HB1.out.next hb2); clear hb2; have i0 := HB2.out.cell 0 _ rfl; have i1 := HB2.out.cell 1 _ rfl; have i2 := HB2.out.cell 2 _ rfl; have i3 := HB2.out.cell 3 _ rfl; have i4 := HB2.out.cell 4 _ rfl; have i5 := HB2.out.cell 5 _ rfl; have i6 := HB2.out.cell 6 _ rfl; have i7 := HB2.out.cell 7 _ rfl; have i8 := HB2.out.cell 8 _ rfl; have i9 := HB2.out.cell 9 _ rfl; have i10 := HB2.out.cell 10 _ rfl; have i11 := HB2.out.cell 11 _ rfl) | (go_at_call_of 63 (Value.int IntKind.i64 sl); refine (CO.out _).mono ?_; clear CO; rintro e w' ⟨rfl, rfl⟩) | (go_at_call 63; refine (CT.out _).mono ?_; clear CT; rintro e w' ⟨rfl, rfl⟩) | (go_at_call_of 64 (Value.int IntKind.i64 sl); refine (CX.out _).mono ?_; clear CX; rintro e w' ⟨rfl, rfl⟩) | (go_at_call 64; refine (CY.out _).mono ?_; clear CY; rintro e w' ⟨rfl, rfl⟩))
                    go_ret
                    exact ⟨ret_bool E.out.symm, HB2.out.1⟩
                have b0 : (P == 0) = false := beq_eq_false_iff_ne.2 h0
                by_cases h1 : P = 1
                · subst h1
                  have E1 : Hid (ruOK A D 1 sa sb sl sh da db dl dh S = (allP sl sh && allP dl dh)) := hide (by rw [E0.out]; rfl)
                  cases hx : allP sl sh with
                  | false =>
                    have E : Hid (ruOK A D 1 sa sb sl sh da db dl dh S = false) := hide (by rw [E1.out, hx]; rfl)
                    rw [hx] at CX
                    go_enter Try.func41, Try.ntmps41
                    go_wp2_with (first | (go_at_call_of 53 (Value.int IntKind.i64 A); refine (CA.out _).mono ?_; clear CA; rintro e w' ⟨rfl, rfl⟩) | (go_at_call_of 53 (Value.int IntKind.i64 D); refine (CD.out _).mono ?_; clear CD; rintro e w' ⟨rfl, rfl⟩) | (go_at_call_of 53 (Value.int IntKind.i64 S); refine (CS.out _).mono ?_; clear CS; rintro e w' ⟨rfl, rfl⟩) | (go_at_call 50; refine (CP.out _).mono ?_; clear CP; rintro e w1 ⟨rfl, hb1⟩; have HB1 := hide (HB.out.next hb1); clear hb1; have j0 := HB1.out.cell 0 _ rfl; have j1 := HB1.out.cell 1 _ rfl; have j2 := HB1.out.cell 2 _ rfl; have j3 := HB1.out.cell 3 _ rfl; have j4 := HB1.out.cell 4 _ rfl; have j5 := HB1.out.cell 5 _ rfl; have j6 := HB1.out.cell 6 _ rfl; have j7 := HB1.out.cell 7 _ rfl; have j8 := HB1.out.cell 8 _ rfl; have j9 := HB1.out.cell 9 _ rfl; have j10 := HB1.out.cell 10 _ rfl; have j11 := HB1.out.cell 11 _ rfl) | (go_at_call 50; refine (CQ.out _).mono ?_; clear CQ; rintro e w2 ⟨rfl, hb2⟩; have HB2 := hide (HB1.out.next hb2); clear hb2; have i0 := HB2.out.cell 0 _ rfl; have i1 := HB2.out.cell 1 _ rfl; have i2 := HB2.out.cell 2 _ rfl; have i3 := HB2.out.cell 3 _ rfl; have i4 := HB2.out.cell 4 _ rfl; have i5 := HB2.out.cell 5 _ rfl; have i6 := HB2.out.cell 6 _ rfl; have i7 := HB2.out.cell 7 _ rfl; have i8 := HB2.out.cell 8 _ rfl; have i9 := HB2.out.cell 9 _ rfl; have i10 := HB2.out.cell 10 _ rfl; have i11 := HB2.out.cell 11 _ rfl) | (go_at_call_of 63 (Value.int IntKind.i64 sl); refine (CO.out _).mono ?_; clear CO; rintro e w' ⟨rfl, rfl⟩) | (go_at_call 63; refine (CT.out _).mono ?_; clear CT; rintro e w' ⟨rfl, rfl⟩) | (go_at_call_of 64 (Value.int IntKind.i64 sl); refine (CX.out _).mono ?_; clear CX; rintro e w' ⟨rfl, rfl⟩))
                    go_ret
                    exact ⟨ret_bool E.out.symm, HB2.out.1⟩
                  | true =>
                    have E : Hid (ruOK A D 1 sa sb sl sh da db dl dh S = allP dl dh) := hide (by rw [E1.out, hx]; rfl)
                    rw [hx] at CX
                    clear hx E0 E1
                    generalize allP dl dh = y at *
                    go_enter Try.func41, Try.ntmps41
                    go_wp2_with (first | (go_at_call_of 53 (Value.int IntKind.i64 A); refine (CA.out _).mono ?_; clear CA; rintro e w' ⟨rfl, rfl⟩) | (go_at_call_of 53 (Value.int IntKind.i64 D); refine (CD.out _).mono ?_; clear CD; rintro e w' ⟨rfl, rfl⟩) | (go_at_call_of 53 (Value.int IntKind.i64 S); refine (CS.out _).mono ?_; clear CS; rintro e w' ⟨rfl, rfl⟩) | (go_at_call 50; refine (CP.out _).mono ?_; clear CP; rintro e w1 ⟨rfl, hb1⟩; have HB1 := hide (HB.out.next hb1); clear hb1; have j0 := HB1.out.cell 0 _ rfl; have j1 := HB1.out.cell 1 _ rfl; have j2 := HB1.out.cell 2 _ rfl; have j3 := HB1.out.cell 3 _ rfl; have j4 := HB1.out.cell 4 _ rfl; have j5 := HB1.out.cell 5 _ rfl; have j6 := HB1.out.cell 6 _ rfl; have j7 := HB1.out.cell 7 _ rfl; have j8 := HB1.out.cell 8 _ rfl; have j9 := HB1.out.cell 9 _ rfl; have j10 := HB1.out.cell 10 _ rfl; have j11 := HB1.out.cell 11 _ rfl) | (go_at_call 50; refine (CQ.out _).mono ?_; clear CQ; rintro e w2 ⟨rfl, hb2⟩; have HB2 := hide (HB1.out.next hb2); clear hb2; have i0 := HB2.out.cell 0 _ rfl; have i1 := HB2.out.cell 1 _ rfl; have i2 := HB2.out.cell 2 _ rfl; have i3 := HB2.out.cell 3 _ rfl; have i4 := HB2.out.cell 4 _ rfl; have i5 := HB2.out.cell 5 _ rfl; have i6 := HB2.out.cell 6 _ rfl; have i7 := HB2.out.cell 7 _ rfl; have i8 := HB2.out.cell 8 _ rfl; have i9 := HB2.out.cell 9 _ rfl; have i10 := HB2.out.cell 10 _ rfl; have i11 := HB2.out.cell 11 _ rfl) | (go_at_call_of 63 (Value.int IntKind.i64 sl); refine (CO.out _).mono ?_; clear CO; rintro e w' ⟨rfl, rfl⟩) | (go_at_call 63; refine (CT.out _).mono ?_; clear CT; rintro e w' ⟨rfl, rfl⟩) | (go_at_call_of 64 (Value.int IntKind.i64 sl); refine (CX.out _).mono ?_; clear CX; rintro e w' ⟨rfl, rfl⟩) | (go_at_call 64; refine (CY.out _).mono ?_; clear CY; rintro e w' ⟨rfl, rfl⟩))
                    go_ret
                    exact ⟨ret_bool E.out.symm, HB2.out.1⟩
                have b1 : (P == 1) = false := beq_eq_false_iff_ne.2 h1
                have E : Hid (ruOK A D P sa sb sl sh da db dl dh S = false) := hide (by rw [E0.out]; unfold protB; rw [decide_eq_false h6, decide_eq_false h17, decide_eq_false h0, decide_eq_false h1]; rfl)
                clear h6 h17 h0 h1
                go_enter Try.func41, Try.ntmps41
                go_wp2_with (first | (go_at_call_of 53 (Value.int IntKind.i64 A); refine (CA.out _).mono ?_; clear CA; rintro e w' ⟨rfl, rfl⟩) | (go_at_call_of 53 (Value.int IntKind.i64 D); refine (CD.out _).mono ?_; clear CD; rintro e w' ⟨rfl, rfl⟩) | (go_at_call_of 53 (Value.int IntKind.i64 S); refine (CS.out _).mono ?_; clear CS; rintro e w' ⟨rfl, rfl⟩) | (go_at_call 50; refine (CP.out _).mono ?_; clear CP; rintro e w1 ⟨rfl, hb1⟩; have HB1 := hide (HB.out.next hb1); clear hb1; have j0 := HB1.out.cell 0 _ rfl; have j1 := HB1.out.cell 1 _ rfl; have j2 := HB1.out.cell 2 _ rfl; have j3 := HB1.out.cell 3 _ rfl; have j4 := HB1.out.cell 4 _ rfl; have j5 := HB1.out.cell 5 _ rfl; have j6 := HB1.out.cell 6 _ rfl; have j7 := HB1.out.cell 7 _ rfl; have j8 := HB1.out.cell 8 _ rfl; have j9 := HB1.out.cell 9 _ rfl; have j10 := HB1.out.cell 10 _ rfl; have j11 := HB1.out.cell 11 _ rfl) | (go_at_call 50; refine (CQ.out _).mono ?_; clear CQ; rintro e w2 ⟨rfl, hb2⟩; have HB2 := hide (HB1.out.next hb2); clear hb2; have i0 := HB2.out.cell 0 _ rfl; have i1 := HB2.out.cell 1 _ rfl; have i2 := HB2.out.cell 2 _ rfl; have i3 := HB2.out.cell 3 _ rfl; have i4 := HB2.out.cell 4 _ rfl; have i5 := HB2.out.cell 5 _ rfl; have i6 := HB2.out.cell 6 _ rfl; have i7 := HB2.out.cell 7 _ rfl; have i8 := HB2.out.cell 8 _ rfl; have i9 := HB2.out.cell 9 _ rfl; have i10 := HB2.out.cell 10 _ rfl; have i11 := HB2.out.cell 11 _ rfl) | (go_at_call_of 63 (Value.int IntKind.i64 sl); refine (CO.out _).mono ?_; clear CO; rintro e w' ⟨rfl, rfl⟩) | (go_at_call 63; refine (CT.out _).mono ?_; clear CT; rintro e w' ⟨rfl, rfl⟩))
                go_ret
                exact ⟨ret_bool E.out.symm, HB2.out.1⟩

abbrev BoxR (w0 w : World) (A D P sa sb sl sh da db dl dh S : Int) : Prop := Below w0.heap.size w0 w ∧ w0.heap.size < w.heap.size ∧ w.cell? ⟨w0.heap.size, 0, none⟩ = some (.int .i64 A) ∧ w.cell? ⟨w0.heap.size, 1, none⟩ = some (.int .i64 D) ∧ w.cell? ⟨w0.heap.size, 2, none⟩ = some (.int .i64 P) ∧ w.cell? ⟨w0.heap.size, 3, none⟩ = some (.int .i64 sa) ∧ w.cell? ⟨w0.heap.size, 4, none⟩ = some (.int .i64 sb) ∧ w.cell? ⟨w0.heap.size, 5, none⟩ = some (.int .i64 sl) ∧ w.cell? ⟨w0.heap.size, 6, none⟩ = some (.int .i64 sh) ∧ w.cell? ⟨w0.heap.size, 7, none⟩ = some (.int .i64 da) ∧ w.cell? ⟨w0.heap.size, 8, none⟩ = some (.int .i64 db) ∧ w.cell? ⟨w0.heap.size, 9, none⟩ = some (.int .i64 dl) ∧ w.cell? ⟨w0.heap.size, 10, none⟩ = some (.int .i64 dh) ∧ w.cell? ⟨w0.heap.size, 11, none⟩ = some (.int .i64 S)
theorem BoxR.start (w0 : World) (A D P sa sb sl sh da db dl dh S : Int) (ty : Nat) : BoxR w0 (w0.alloc (.cells #[.int .i64 A, .int .i64 D, .int .i64 P, .int .i64 sa, .int .i64 sb, .int .i64 sl, .int .i64 sh, .int .i64 da, .int .i64 db, .int .i64 dl, .int .i64 dh, .int .i64 S] ty)) A D P sa sb sl sh da db dl dh S := by
  have h := BoxV.start w0 #[.int .i64 A, .int .i64 D, .int .i64 P, .int .i64 sa, .int .i64 sb, .int .i64 sl, .int .i64 sh, .int .i64 da, .int .i64 db, .int .i64 dl, .int .i64 dh, .int .i64 S] ty
  exact ⟨h.1, h.2.1, h.cell 0 _ rfl, h.cell 1 _ rfl, h.cell 2 _ rfl, h.cell 3 _ rfl, h.cell 4 _ rfl, h.cell 5 _ rfl, h.cell 6 _ rfl, h.cell 7 _ rfl, h.cell 8 _ rfl, h.cell 9 _ rfl, h.cell 10 _ rfl, h.cell 11 _ rfl⟩
theorem BoxR.next {w0 w w' : World} {A D P sa sb sl sh da db dl dh S : Int} (h : BoxR w0 w A D P sa sb sl sh da db dl dh S) (hb : Below w.heap.size w w') : BoxR w0 w' A D P sa sb sl sh da db dl dh S := by
  obtain ⟨h1, h2, c0, c1, c2, c3, c4, c5, c6, c7, c8, c9, c10, c11⟩ := h
  exact ⟨h1.trans (hb.mono (Nat.le_of_lt h2)), Nat.lt_of_lt_of_le h2 hb.size, (hb.cell (p := ⟨w0.heap.size, 0, none⟩) h2).trans c0, (hb.cell (p := ⟨w0.heap.size, 1, none⟩) h2).trans c1, (hb.cell (p := ⟨w0.heap.size, 2, none⟩) h2).trans c2, (hb.cell (p := ⟨w0.heap.size, 3, none⟩) h2).trans c3, (hb.cell (p := ⟨w0.heap.size, 4, none⟩) h2).trans c4, (hb.cell (p := ⟨w0.heap.size, 5, none⟩) h2).trans c5, (hb.cell (p := ⟨w0.heap.size, 6, none⟩) h2).trans c6, (hb.cell (p := ⟨w0.heap.size, 7, none⟩) h2).trans c7, (hb.cell (p := ⟨w0.heap.size, 8, none⟩) h2).trans c8, (hb.cell (p := ⟨w0.heap.size, 9, none⟩) h2).trans c9, (hb.cell (p := ⟨w0.heap.size, 10, none⟩) h2).trans c10, (hb.cell (p := ⟨w0.heap.size, 11, none⟩) h2).trans c11⟩
theorem BoxR.drew {w0 w : World} {A D P sa sb sl sh da db dl dh S : Int} (h : BoxR w0 w A D P sa sb sl sh da db dl dh S) : BoxR w0 w.drew A D P sa sb sl sh da db dl dh S := h.next ((Below.refl _ _).drew)
end Go.Proofs.Ytgegnkboibgbgaa
