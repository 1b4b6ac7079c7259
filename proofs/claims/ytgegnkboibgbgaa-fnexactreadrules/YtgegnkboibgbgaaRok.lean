/-
Contracts of functions of this seat.
-/
import Derived.Test.YtgegnkboibgbgaaRows
import Derived.WalkKit
import Derived.ProofKit
import Derived.OpenShut
import Derived.Test.YtgegnkboibgbgaaRtm
namespace Go.Proofs.Ytgegnkboibgbgaa
open Go.ChangeShapes Go.WideShapes Go.ChangeAt Go.RowKit
set_option linter.unusedVariables false
set_option maxRecDepth 100000
theorem specKindA (v : Int) (w : World) : Calls Try.prog 52 #[.int .i64 v] w fun e w' => e = .returned (.int .i64 (kindA v)) ∧ w' = w := by
  unfold kindA
  cases h : adrB v with
  | true => exact specKind_yes v w h
  | false => exact specKind_no v w h
set_option maxHeartbeats 4000000 in
theorem specROK_walk (a b v l m : Int) (w : World) : Calls Try.prog 29 #[.agg #[.int .i64 a, .int .i64 b, .int .i64 v, .int .i64 l, .int .i64 m]] w fun e w' => e = .returned (.bool (rtOK a b v l m)) ∧ Below w.heap.size w w' := by
  have HB := hide (BoxV.start w #[.int .i64 a, .int .i64 b, .int .i64 v, .int .i64 l, .int .i64 m] 39)
  have CP := hide (fun W => specPrefixOK_walk a b W)
  have CK := hide (fun W => specKindA v W)
  have k0 := HB.out.cell 0 _ rfl
  have k1 := HB.out.cell 1 _ rfl
  cases hp : prefB a b with
  | false =>
    have E : Hid (rtOK a b v l m = false) := hide (by unfold rtOK; rw [hp]; rfl)
    rw [hp] at CP
    go_enter Try.func29, Try.ntmps29
    go_wp2_with fail
    refine (CP.out _).mono ?_
    rintro e w1 ⟨rfl, hb1⟩
    have HB1 := hide (HB.out.next hb1)
    clear k0 k1 hb1
    go_wp2_with fail
    go_ret
    exact ⟨ret_bool E.out.symm, HB1.out.1⟩
  | true =>
    rw [hp] at CP
    have ER : Hid (rtOK a b v l m = ((decide (v = 0) || decide (kindA v = 6)) && inB l 0 7 && inB m 0 1000000)) := hide (by unfold rtOK; rw [hp]; rfl)
    clear hp
    by_cases hv : v = 0
    · have EV : Hid (rtOK a b v l m = (inB l 0 7 && inB m 0 1000000)) := hide (by rw [ER.out, decide_eq_true hv]; rfl)
      subst hv
      cases hl : inB l 0 7 with
      | false =>
        have E : Hid (rtOK a b 0 l m = false) := hide (by rw [EV.out, hl]; rfl)
        go_enter Try.func29, Try.ntmps29
        go_wp2_with fail
        refine (CP.out _).mono ?_
        rintro e w1 ⟨rfl, hb1⟩
        have HB1 := hide (HB.out.next hb1)
        clear k0 k1 hb1
        have k2 := HB1.out.cell 2 _ rfl
        have k3 := HB1.out.cell 3 _ rfl
        have k4 := HB1.out.cell 4 _ rfl
        go_wp2_with (go_at_call 53; refine (In_walk _ _ _ _).mono ?_; rintro e w' ⟨rfl, rfl⟩)
        go_ret
        exact ⟨ret_bool E.out.symm, HB1.out.1⟩
      | true =>
        have E : Hid (rtOK a b 0 l m = inB m 0 1000000) := hide (by rw [EV.out, hl]; rfl)
        go_enter Try.func29, Try.ntmps29
        go_wp2_with fail
        refine (CP.out _).mono ?_
        rintro e w1 ⟨rfl, hb1⟩
        have HB1 := hide (HB.out.next hb1)
        clear k0 k1 hb1
        have k2 := HB1.out.cell 2 _ rfl
        have k3 := HB1.out.cell 3 _ rfl
        have k4 := HB1.out.cell 4 _ rfl
        go_wp2_with (go_at_call 53; refine (In_walk _ _ _ _).mono ?_; rintro e w' ⟨rfl, rfl⟩)
        go_ret
        exact ⟨ret_bool E.out.symm, HB1.out.1⟩
    · have hvb : (v == 0) = false := beq_eq_false_iff_ne.2 hv
      by_cases hk : kindA v = 6
      · have EV : Hid (rtOK a b v l m = (inB l 0 7 && inB m 0 1000000)) := hide (by rw [ER.out, decide_eq_true hk]; simp)
        rw [hk] at CK
        cases hl : inB l 0 7 with
        | false =>
          have E : Hid (rtOK a b v l m = false) := hide (by rw [EV.out, hl]; rfl)
          go_enter Try.func29, Try.ntmps29
          go_wp2_with fail
          refine (CP.out _).mono ?_
          rintro e w1 ⟨rfl, hb1⟩
          have HB1 := hide (HB.out.next hb1)
          clear k0 k1 hb1
          have k2 := HB1.out.cell 2 _ rfl
          have k3 := HB1.out.cell 3 _ rfl
          have k4 := HB1.out.cell 4 _ rfl
          go_wp2_with (first | (go_at_call 53; refine (In_walk _ _ _ _).mono ?_; rintro e w' ⟨rfl, rfl⟩) | (go_at_call 52; refine (CK.out _).mono ?_; rintro e w' ⟨rfl, rfl⟩))
          go_ret
          exact ⟨ret_bool E.out.symm, HB1.out.1⟩
        | true =>
          have E : Hid (rtOK a b v l m = inB m 0 1000000) := hide (by rw [EV.out, hl]; rfl)
          go_enter Try.func29, Try.ntmps29
          go_wp2_with fail
          refine (CP.out _).mono ?_
          rintro e w1 ⟨rfl, hb1⟩
          have HB1 := hide (HB.out.next hb1)
          clear k0 k1 hb1
          have k2 := HB1.out.cell 2 _ rfl
          have k3 := HB1.out.cell 3 _ rfl
          have k4 := HB1.out.cell 4 _ rfl
          go_wp2_with (first | (go_at_call 53; refine (In_walk _ _ _ _).mono ?_; rintro e w' ⟨rfl, rfl⟩) | (go_at_call 52; refine (CK.out _).mono ?_; rintro e w' ⟨rfl, rfl⟩))
          go_ret
          exact ⟨ret_bool E.out.symm, HB1.out.1⟩
      · have E : Hid (rtOK a b v l m = false) := hide (by rw [ER.out, decide_eq_false hk, decide_eq_false hv]; rfl)
        have hkb : (kindA v == 6) = false := beq_eq_false_iff_ne.2 hk
        go_enter Try.func29, Try.ntmps29
        go_wp2_with fail
        refine (CP.out _).mono ?_
        rintro e w1 ⟨rfl, hb1⟩
        have HB1 := hide (HB.out.next hb1)
        clear k0 k1 hb1
        have k2 := HB1.out.cell 2 _ rfl
        have k3 := HB1.out.cell 3 _ rfl
        have k4 := HB1.out.cell 4 _ rfl
        go_wp2_with (first | (go_at_call 53; refine (In_walk _ _ _ _).mono ?_; rintro e w' ⟨rfl, rfl⟩) | (go_at_call 52; refine (CK.out _).mono ?_; rintro e w' ⟨rfl, rfl⟩))
        go_ret
        exact ⟨ret_bool E.out.symm, HB1.out.1⟩
end Go.Proofs.Ytgegnkboibgbgaa
