/-
Contracts of functions of this seat.
-/
import Derived.Test.YtmlpninkilcjaaaRows
import Derived.WalkKit
import Derived.ProofKit
import Derived.OpenShut
import Derived.Test.YtmlpninkilcjaaaThp
namespace Go.Proofs.Ytmlpninkilcjaaa
open Go.ChangeShapes Go.WideShapes Go.ChangeAt Go.RowKit
set_option linter.unusedVariables false
set_option maxRecDepth 100000
theorem kindA_walk (v : Int) (w : World) : Calls Try.prog 67 #[.int .i64 v] w fun e w' => e = .returned (.int .i64 (kindA v)) ∧ Below w.heap.size w w' := by
  unfold kindA
  cases h : adrB v with
  | true => exact kind_yes v w h
  | false => exact kind_no v w h
theorem inB_tt {x l h : Int} (h1 : l ≤ x) (h2 : x ≤ h) : inB x l h = true := by unfold inB; exact decide_eq_true ⟨h1, h2⟩
theorem inB_lo {x l h : Int} (h1 : ¬ l ≤ x) : inB x l h = false := by unfold inB; exact decide_eq_false (fun e => h1 e.1)
theorem inB_hi {x l h : Int} (h2 : ¬ x ≤ h) : inB x l h = false := by unfold inB; exact decide_eq_false (fun e => h2 e.2)
set_option maxHeartbeats 8000000 in
theorem validRoute_walk (a b v l m : Int) (w : World) : Calls Try.prog 46 #[.agg #[.int .i64 a, .int .i64 b, .int .i64 v, .int .i64 l, .int .i64 m]] w fun e w' => e = .returned (.bool (rtOK a b v l m)) ∧ Below w.heap.size w w' := by
  have HB := hide (BoxV.start w #[.int .i64 a, .int .i64 b, .int .i64 v, .int .i64 l, .int .i64 m] 27)
  have CP := hide (fun W => valid_walk a b W)
  have CK := hide (fun W => kindA_walk v W)
  have k0 := HB.out.cell 0 _ rfl
  have k1 := HB.out.cell 1 _ rfl
  cases hp : prefB a b with
  | false =>
    have E : Hid (rtOK a b v l m = false) := hide (by unfold rtOK; rw [hp]; rfl)
    rw [hp] at CP
    go_enter Try.func46, Try.ntmps46
    go_wp2_with fail
    refine (CP.out _).mono ?_
    rintro e w1 ⟨rfl, hb1⟩
    have HB1 := hide (HB.out.next hb1)
    clear k0 k1 hb1
    go_wp2_with fail
    go_ret
    exact ⟨ret_bool E.out.symm, HB1.out.1⟩
  | true =>
    rw [hp] at CP
    have ER : Hid (rtOK a b v l m = ((decide (v = 0) || decide (kindA v = 6)) && inB l 0 7 && inB m 0 1000000)) := hide (by unfold rtOK; rw [hp]; rfl)
    clear hp
    by_cases hv : v = 0
    · have EV : Hid (rtOK a b v l m = (inB l 0 7 && inB m 0 1000000)) := hide (by rw [ER.out, decide_eq_true hv]; rfl)
      subst hv
      by_cases hl0 : 0 ≤ l
      · by_cases hl1 : l ≤ 7
        · have EL : Hid (inB l 0 7 = true) := hide (inB_tt hl0 hl1)
          by_cases hm0 : 0 ≤ m
          · by_cases hm1 : m ≤ 1000000
            · have EM : Hid (inB m 0 1000000 = true) := hide (inB_tt hm0 hm1)
              have E : Hid (rtOK a b 0 l m = true) := hide (by rw [EV.out]; rw [EL.out, EM.out]; rfl)
              go_enter Try.func46, Try.ntmps46
              go_wp2_with fail
              refine (CP.out _).mono ?_
              rintro e w1 ⟨rfl, hb1⟩
              have HB1 := hide (HB.out.next hb1)
              clear k0 k1 hb1
              have k2 := HB1.out.cell 2 _ rfl
              have k3 := HB1.out.cell 3 _ rfl
              have k4 := HB1.out.cell 4 _ rfl
              go_wp2_with fail
              go_ret
              exact ⟨ret_bool E.out.symm, HB1.out.1⟩
            · have EM : Hid (inB m 0 1000000 = false) := hide (inB_hi hm1)
              have hd : decide (m ≤ 1000000) = false := decide_eq_false hm1
              clear hm1
              have E : Hid (rtOK a b 0 l m = false) := hide (by rw [EV.out]; rw [EL.out, EM.out]; rfl)
              go_enter Try.func46, Try.ntmps46
              go_wp2_with fail
              refine (CP.out _).mono ?_
              rintro e w1 ⟨rfl, hb1⟩
              have HB1 := hide (HB.out.next hb1)
              clear k0 k1 hb1
              have k2 := HB1.out.cell 2 _ rfl
              have k3 := HB1.out.cell 3 _ rfl
              have k4 := HB1.out.cell 4 _ rfl
              go_wp2_with fail
              go_ret
              exact ⟨ret_bool E.out.symm, HB1.out.1⟩
          · have EM : Hid (inB m 0 1000000 = false) := hide (inB_lo hm0)
            have hd : decide (0 ≤ m) = false := decide_eq_false hm0
            clear hm0
            have E : Hid (rtOK a b 0 l m = false) := hide (by rw [EV.out]; rw [EL.out, EM.out]; rfl)
            go_enter Try.func46, Try.ntmps46
            go_wp2_with fail
            refine (CP.out _).mono ?_
            rintro e w1 ⟨rfl, hb1⟩
            have HB1 := hide (HB.out.next hb1)
            clear k0 k1 hb1
            have k2 := HB1.out.cell 2 _ rfl
            have k3 := HB1.out.cell 3 _ rfl
            have k4 := HB1.out.cell 4 _ rfl
            go_wp2_with fail
            go_ret
            exact ⟨ret_bool E.out.symm, HB1.out.1⟩
        · have EL : Hid (inB l 0 7 = false) := hide (inB_hi hl1)
          have hd : decide (l ≤ 7) = false := decide_eq_false hl1
          clear hl1
          have E : Hid (rtOK a b 0 l m = false) := hide (by rw [EV.out]; rw [EL.out]; rfl)
          go_enter Try.func46, Try.ntmps46
          go_wp2_with fail
          refine (CP.out _).mono ?_
          rintro e w1 ⟨rfl, hb1⟩
          have HB1 := hide (HB.out.next hb1)
          clear k0 k1 hb1
          have k2 := HB1.out.cell 2 _ rfl
          have k3 := HB1.out.cell 3 _ rfl
          have k4 := HB1.out.cell 4 _ rfl
          go_wp2_with fail
          go_ret
          exact ⟨ret_bool E.out.symm, HB1.out.1⟩
      · have EL : Hid (inB l 0 7 = false) := hide (inB_lo hl0)
        have hd : decide (0 ≤ l) = false := decide_eq_false hl0
        clear hl0
        have E : Hid (rtOK a b 0 l m = false) := hide (by rw [EV.out]; rw [EL.out]; rfl)
        go_enter Try.func46, Try.ntmps46
        go_wp2_with fail
        refine (CP.out _).mono ?_
        rintro e w1 ⟨rfl, hb1⟩
        have HB1 := hide (HB.out.next hb1)
        clear k0 k1 hb1
        have k2 := HB1.out.cell 2 _ rfl
        have k3 := HB1.out.cell 3 _ rfl
        have k4 := HB1.out.cell 4 _ rfl
        go_wp2_with fail
        go_ret
        exact ⟨ret_bool E.out.symm, HB1.out.1⟩
    · have hvb : (v == 0) = false := beq_eq_false_iff_ne.2 hv
      by_cases hk : kindA v = 6
      · have EV : Hid (rtOK a b v l m = (inB l 0 7 && inB m 0 1000000)) := hide (by rw [ER.out, decide_eq_true hk]; simp)
        rw [hk] at CK
        by_cases hl0 : 0 ≤ l
        · by_cases hl1 : l ≤ 7
          · have EL : Hid (inB l 0 7 = true) := hide (inB_tt hl0 hl1)
            by_cases hm0 : 0 ≤ m
            · by_cases hm1 : m ≤ 1000000
              · have EM : Hid (inB m 0 1000000 = true) := hide (inB_tt hm0 hm1)
                have E : Hid (rtOK a b v l m = true) := hide (by rw [EV.out]; rw [EL.out, EM.out]; rfl)
                go_enter Try.func46, Try.ntmps46
                go_wp2_with fail
                refine (CP.out _).mono ?_
                rintro e w1 ⟨rfl, hb1⟩
                have HB1 := hide (HB.out.next hb1)
                clear k0 k1 hb1
                have k2 := HB1.out.cell 2 _ rfl
                have k3 := HB1.out.cell 3 _ rfl
                have k4 := HB1.out.cell 4 _ rfl
                go_wp2_with (first | (go_at_call 67; refine (CK.out _).mono ?_; rintro e w2 ⟨rfl, hb2⟩; have HB2 := hide (HB1.out.next hb2); have j3 := HB2.out.cell 3 _ rfl; have j4 := HB2.out.cell 4 _ rfl))
                go_ret
                exact ⟨ret_bool E.out.symm, HB2.out.1⟩
              · have EM : Hid (inB m 0 1000000 = false) := hide (inB_hi hm1)
                have hd : decide (m ≤ 1000000) = false := decide_eq_false hm1
                clear hm1
                have E : Hid (rtOK a b v l m = false) := hide (by rw [EV.out]; rw [EL.out, EM.out]; rfl)
                go_enter Try.func46, Try.ntmps46
                go_wp2_with fail
                refine (CP.out _).mono ?_
                rintro e w1 ⟨rfl, hb1⟩
                have HB1 := hide (HB.out.next hb1)
                clear k0 k1 hb1
                have k2 := HB1.out.cell 2 _ rfl
                have k3 := HB1.out.cell 3 _ rfl
                have k4 := HB1.out.cell 4 _ rfl
                go_wp2_with (first | (go_at_call 67; refine (CK.out _).mono ?_; rintro e w2 ⟨rfl, hb2⟩; have HB2 := hide (HB1.out.next hb2); have j3 := HB2.out.cell 3 _ rfl; have j4 := HB2.out.cell 4 _ rfl))
                go_ret
                exact ⟨ret_bool E.out.symm, HB2.out.1⟩
            · have EM : Hid (inB m 0 1000000 = false) := hide (inB_lo hm0)
              have hd : decide (0 ≤ m) = false := decide_eq_false hm0
              clear hm0
              have E : Hid (rtOK a b v l m = false) := hide (by rw [EV.out]; rw [EL.out, EM.out]; rfl)
              go_enter Try.func46, Try.ntmps46
              go_wp2_with fail
              refine (CP.out _).mono ?_
              rintro e w1 ⟨rfl, hb1⟩
              have HB1 := hide (HB.out.next hb1)
              clear k0 k1 hb1
              have k2 := HB1.out.cell 2 _ rfl
              have k3 := HB1.out.cell 3 _ rfl
              have k4 := HB1.out.cell 4 _ rfl
              go_wp2_with (first | (go_at_call 67; refine (CK.out _).mono ?_; rintro e w2 ⟨rfl, hb2⟩; have HB2 := hide (HB1.out.next hb2); have j3 := HB2.out.cell 3 _ rfl; have j4 := HB2.out.cell 4 _ rfl))
              go_ret
              exact ⟨ret_bool E.out.symm, HB2.out.1⟩
          · have EL : Hid (inB l 0 7 = false) := hide (inB_hi hl1)
            have hd : decide (l ≤ 7) = false := decide_eq_false hl1
            clear hl1
            have E : Hid (rtOK a b v l m = false) := hide (by rw [EV.out]; rw [EL.out]; rfl)
            go_enter Try.func46, Try.ntmps46
            go_wp2_with fail
            refine (CP.out _).mono ?_
            rintro e w1 ⟨rfl, hb1⟩
            have HB1 := hide (HB.out.next hb1)
            clear k0 k1 hb1
            have k2 := HB1.out.cell 2 _ rfl
            have k3 := HB1.out.cell 3 _ rfl
            have k4 := HB1.out.cell 4 _ rfl
            go_wp2_with (first | (go_at_call 67; refine (CK.out _).mono ?_; rintro e w2 ⟨rfl, hb2⟩; have HB2 := hide (HB1.out.next hb2); have j3 := HB2.out.cell 3 _ rfl; have j4 := HB2.out.cell 4 _ rfl))
            go_ret
            exact ⟨ret_bool E.out.symm, HB2.out.1⟩
        · have EL : Hid (inB l 0 7 = false) := hide (inB_lo hl0)
          have hd : decide (0 ≤ l) = false := decide_eq_false hl0
          clear hl0
          have E : Hid (rtOK a b v l m = false) := hide (by rw [EV.out]; rw [EL.out]; rfl)
          go_enter Try.func46, Try.ntmps46
          go_wp2_with fail
          refine (CP.out _).mono ?_
          rintro e w1 ⟨rfl, hb1⟩
          have HB1 := hide (HB.out.next hb1)
          clear k0 k1 hb1
          have k2 := HB1.out.cell 2 _ rfl
          have k3 := HB1.out.cell 3 _ rfl
          have k4 := HB1.out.cell 4 _ rfl
          go_wp2_with (first | (go_at_call 67; refine (CK.out _).mono ?_; rintro e w2 ⟨rfl, hb2⟩; have HB2 := hide (HB1.out.next hb2); have j3 := HB2.out.cell 3 _ rfl; have j4 := HB2.out.cell 4 _ rfl))
          go_ret
          exact ⟨ret_bool E.out.symm, HB2.out.1⟩
      · have EV : Hid (rtOK a b v l m = false) := hide (by rw [ER.out, decide_eq_false hk, decide_eq_false hv]; rfl)
        have hkb : (kindA v == 6) = false := beq_eq_false_iff_ne.2 hk
        have E : Hid (rtOK a b v l m = false) := hide (by exact EV.out)
        go_enter Try.func46, Try.ntmps46
        go_wp2_with fail
        refine (CP.out _).mono ?_
        rintro e w1 ⟨rfl, hb1⟩
        have HB1 := hide (HB.out.next hb1)
        clear k0 k1 hb1
        have k2 := HB1.out.cell 2 _ rfl
        have k3 := HB1.out.cell 3 _ rfl
        have k4 := HB1.out.cell 4 _ rfl
        go_wp2_with (first | (go_at_call 67; refine (CK.out _).mono ?_; rintro e w2 ⟨rfl, hb2⟩; have HB2 := hide (HB1.out.next hb2); have j3 := HB2.out.cell 3 _ rfl; have j4 := HB2.out.cell 4 _ rfl))
        go_ret
        exact ⟨ret_bool E.out.symm, HB2.out.1⟩
end Go.Proofs.Ytmlpninkilcjaaa
