/-
Contracts of functions of this seat.
-/
import Derived.Test.YtcnfnimgpiaamaaDoorRows
import Derived.WalkKit
import Derived.ProofKit
import Derived.OpenShut
import Derived.Test.YtcnfnimgpiaamaaDoorSg4
namespace Go.Proofs.YtcnfnimgpiaamaaDoor
open Go.ChangeShapes Go.WideShapes Go.ChangeAt Go.RowKit
set_option linter.unusedVariables false
set_option maxRecDepth 100000
theorem isSeq_walk (a : Int) (w : World) : Calls Tryd.prog 71 #[.int .i64 a] w fun e w' => e = .returned (.bool (adrB a)) ∧ w' = w := by
  by_cases h1 : 0 ≤ a
  · by_cases h2 : a ≤ 4294967295
    · have e := hide (adrB_iff.2 ⟨h1, h2⟩)
      go_enter Tryd.func71, Tryd.ntmps71
      go_wp2
      go_ret
      exact ⟨ret_bool e.out.symm, rfl⟩
    · have e : Hid (adrB a = false) := hide (by unfold adrB; simp; omega)
      go_enter Tryd.func71, Tryd.ntmps71
      go_wp2
      go_ret
      exact ⟨ret_bool e.out.symm, rfl⟩
  · have e : Hid (adrB a = false) := hide (by unfold adrB; simp; omega)
    go_enter Tryd.func71, Tryd.ntmps71
    go_wp2
    go_ret
    exact ⟨ret_bool e.out.symm, rfl⟩
/-- What a scale must be. -/
def scB (x7 : Bool) (x8 : Int) : Bool := inB x8 0 14 && (x7 || x8 == 0)
set_option maxHeartbeats 4000000 in
theorem validScale_walk (x0 x1 x2 x3 x4 x5 x6 : Int) (x7 : Bool) (x8 : Int) (x9 : Bool) (a0 : Option Addr) (n0 c0 : Nat) (a1 : Option Addr) (n1 c1 : Nat) (w : World) :
    Calls Tryd.prog 72 #[.agg #[.int .i64 x0, .int .i64 x1, .int .i64 x2, .int .i64 x3, .int .i64 x4, .int .i64 x5, .int .i64 x6, .bool x7, .int .i64 x8, .bool x9, .slice a0 n0 c0, .slice a1 n1 c1]] w fun e w' => e = .returned (.bool (scB x7 x8)) ∧ Below w.heap.size w w' := by
  have HB : Hid (HoldV (w.alloc (.cells #[.int .i64 x0, .int .i64 x1, .int .i64 x2, .int .i64 x3, .int .i64 x4, .int .i64 x5, .int .i64 x6, .bool x7, .int .i64 x8, .bool x9, .slice a0 n0 c0, .slice a1 n1 c1] sgT)) w.heap.size _ sgT) := hide (heap_alloc_new _ _)
  have HW := hide ((Below.refl w.heap.size w).alloc (Nat.le_refl _) (.cells #[.int .i64 x0, .int .i64 x1, .int .i64 x2, .int .i64 x3, .int .i64 x4, .int .i64 x5, .int .i64 x6, .bool x7, .int .i64 x8, .bool x9, .slice a0 n0 c0, .slice a1 n1 c1] sgT))
  have k7 := HB.out.cell 7 _ rfl; have k8 := HB.out.cell 8 _ rfl
  by_cases h0 : x8 = 0
  · subst h0
    have E : Hid (scB x7 0 = true) := hide (by unfold scB inB; simp)
    go_enter Tryd.func72, Tryd.ntmps72
    go_wp2_with fail
    go_ret
    exact ⟨ret_bool E.out.symm, HW.out⟩
  · have hb8 : (x8 == 0) = false := beq_eq_false_iff_ne.2 h0
    cases x7 with
    | false =>
      have E : Hid (scB false x8 = false) := hide (by unfold scB; simp [h0])
      go_enter Tryd.func72, Tryd.ntmps72
      go_wp2_with fail
      go_ret
      exact ⟨ret_bool (by rw [E.out]), HW.out⟩
    | true =>
      by_cases h1 : 0 < x8
      · by_cases h2 : x8 ≤ 14
        · have E : Hid (scB true x8 = true) := hide (by unfold scB inB; simp; omega)
          go_enter Tryd.func72, Tryd.ntmps72
          go_wp2_with fail
          go_ret
          exact ⟨ret_bool E.out.symm, HW.out⟩
        · have E : Hid (scB true x8 = false) := hide (by unfold scB inB; simp; omega)
          have hd : decide (x8 ≤ 14) = false := decide_eq_false h2
          go_enter Tryd.func72, Tryd.ntmps72
          go_wp2_with fail
          go_ret
          exact ⟨ret_bool (by rw [E.out]), HW.out⟩
      · have E : Hid (scB true x8 = false) := hide (by unfold scB inB; simp; omega)
        have hd : decide (0 < x8) = false := decide_eq_false h1
        go_enter Tryd.func72, Tryd.ntmps72
        go_wp2_with fail
        go_ret
        exact ⟨ret_bool (by rw [E.out]), HW.out⟩
set_option maxHeartbeats 8000000 in
theorem validSacks_walk (a0 : Option Addr) (n0 c0 : Nat) (z : List Int) (w : World) (hz : z.length = n0 * 2) (ha : ArrI w a0 z) (m0 : n0 ≤ 1048576) :
    Calls Tryd.prog 73 #[.slice a0 n0 c0] w fun e w' => e = .returned (.bool (decide (n0 ≤ 3) && sgS z)) ∧ Below w.heap.size w w' := by
  have HA := hide ha
  have HZ := hide hz
  clear hz ha
  by_cases h3 : n0 ≤ 3
  · have E : Hid ((decide (n0 ≤ 3) && sgS z) = sgS z) := hide (by rw [decide_eq_true h3]; rfl)
    have h3' : ¬ (3 : Int) < (n0 : Int) := by omega
    go_enter Tryd.func73, Tryd.ntmps73
    go_wp2_with fail
    go_loopw [10] (fun t w2 => ∃ k : Nat, k ≤ n0 ∧ t = .int .i64 (k : Int) ∧ Hid (Below w.heap.size w w2) ∧ Hid (∀ q, q < 2 * k → adrB (z.getD q 0) = true)) (fun t _ => n0 - (intOf t).toNat)
    case atStart => exact ⟨0, Nat.zero_le _, rfl, hide (Below.refl _ _), hide (fun q hq => by omega)⟩
    case round =>
      obtain ⟨k, hk, rfl, HW, HQ⟩ := hrel
      by_cases hlt : k < n0
      · obtain ⟨b, off, rfl, hb1, hc1⟩ := HA.out (k * 2) (by have := HZ.out; omega)
        obtain ⟨b2, off2, e2, hb2, hc2⟩ := HA.out (k * 2 + 1) (by have := HZ.out; omega)
        injection e2 with e2; injection e2 with e3 e4; subst e3 e4
        have hc1' : wr.cell? ⟨b, off + k * 2, none⟩ = some (.int .i64 (z.getD (k * 2) 0)) := by rw [HW.out.cell (p := ⟨b, off + k * 2, none⟩) hb1]; exact hc1
        have hc3 : wr.cell? ⟨b, off + k * 2 + 1, none⟩ = some (.int .i64 (z.getD (k * 2 + 1) 0)) := by rw [HW.out.cell (p := ⟨b, off + k * 2 + 1, none⟩) hb2]; exact hc2
        have CF := hide (fun W => isSeq_walk (z.getD (k * 2) 0) W)
        have CT := hide (fun W => isSeq_walk (z.getD (k * 2 + 1) 0) W)
        have HB2 : Hid (Below w.heap.size w (wr.alloc (.cells #[.int .i64 (z.getD (k * 2) 0), .int .i64 (z.getD (k * 2 + 1) 0)] 53))) := hide (HW.out.alloc HW.out.size _)
        have HQ3 : Hid (adrB (z.getD (k * 2) 0) = true → adrB (z.getD (k * 2 + 1) 0) = true → ∀ q, q < 2 * (k + 1) → adrB (z.getD q 0) = true) := hide (fun h1 h2 q hq => by
              rcases (show q < 2 * k ∨ q = k * 2 ∨ q = k * 2 + 1 by omega) with h | rfl | rfl
              · exact HQ.out q h
              · exact h1
              · exact h2)
        have HN1 : Hid (adrB (z.getD (k * 2) 0) = false → sgS z = false) := hide (fun h => sgS_no (z := z) (k * 2) (by have := HZ.out; omega) h)
        have HN2 : Hid (adrB (z.getD (k * 2 + 1) 0) = false → sgS z = false) := hide (fun h => sgS_no (z := z) (k * 2 + 1) (by have := HZ.out; omega) h)
        clear hc1 hc2 HQ HW
        generalize z.getD (k * 2) 0 = u at *
        generalize z.getD (k * 2 + 1) 0 = v at *
        have hk0 : (heap_alloc_new wr (.cells #[.int .i64 u, .int .i64 v] 53) = heap_alloc_new wr (.cells #[.int .i64 u, .int .i64 v] 53)) := rfl
        clear hk0
        have HV : Hid (HoldV (wr.alloc (.cells #[.int .i64 u, .int .i64 v] 53)) wr.heap.size _ 53) := hide (heap_alloc_new _ _)
        have kk0 := HV.out.cell 0 _ rfl
        have kk1 := HV.out.cell 1 _ rfl
        cases hf : adrB u with
        | false =>
          have E2 := hide (HN1.out hf)
          have CFF : Hid (∀ W, Calls Tryd.prog 71 #[.int .i64 u] W fun e w' => e = .returned (.bool false) ∧ w' = W) := hide (by rw [← hf]; exact CF.out)
          clear hf CF CT HQ3 HN1 HN2
          go_wp2_with (first | (go_at_call 71; refine (CFF.out _).mono ?_; rintro e w2 ⟨rfl, rfl⟩))
          go_ret
          exact ⟨ret_bool (by rw [E.out, E2.out]), HB2.out⟩
        | true =>
          have CFF : Hid (∀ W, Calls Tryd.prog 71 #[.int .i64 u] W fun e w' => e = .returned (.bool true) ∧ w' = W) := hide (by rw [← hf]; exact CF.out)
          cases ht : adrB v with
          | false =>
            have E2 := hide (HN2.out ht)
            have CTT : Hid (∀ W, Calls Tryd.prog 71 #[.int .i64 v] W fun e w' => e = .returned (.bool false) ∧ w' = W) := hide (by rw [← ht]; exact CT.out)
            clear hf ht CF CT HQ3 HN1 HN2
            go_wp2_with fail
            refine (CFF.out _).mono ?_
            rintro e w2 ⟨rfl, rfl⟩
            go_wp2_with fail
            refine (CTT.out _).mono ?_
            rintro e w2 ⟨rfl, rfl⟩
            go_wp2_with fail
            go_ret
            exact ⟨ret_bool (by rw [E.out, E2.out]), HB2.out⟩
          | true =>
            have CTT : Hid (∀ W, Calls Tryd.prog 71 #[.int .i64 v] W fun e w' => e = .returned (.bool true) ∧ w' = W) := hide (by rw [← ht]; exact CT.out)
            have HQ4 := hide (HQ3.out hf ht)
            clear hf ht CF CT HQ3 HN1 HN2
            go_wp2_with fail
            refine (CFF.out _).mono ?_
            rintro e w2 ⟨rfl, rfl⟩
            go_wp2_with fail
            refine (CTT.out _).mono ?_
            rintro e w2 ⟨rfl, rfl⟩
            go_wp2_with fail
            exact ⟨⟨k + 1, by omega, by go_num, HB2, HQ4⟩, by simp [intOf]; omega⟩
      · have hk' : k = n0 := by omega
        subst hk'
        have E2 : Hid (sgS z = true) := hide (sgS_yes (fun j hj => HQ.out j (by have := HZ.out; omega)))
        clear HQ
        go_wp2_with fail
        go_ret
        exact ⟨ret_bool (by rw [E.out, E2.out]), HW.out⟩
  · have E : Hid ((decide (n0 ≤ 3) && sgS z) = false) := hide (by rw [decide_eq_false h3]; rfl)
    have h3' : (3 : Int) < (n0 : Int) := by omega
    go_enter Tryd.func73, Tryd.ntmps73
    go_wp2_with fail
    go_ret
    exact ⟨ret_bool E.out.symm, Below.refl _ _⟩

set_option maxHeartbeats 8000000 in
theorem validSegment_walk (x0 x1 x2 x3 x4 x5 x6 : Int) (x7 : Bool) (x8 : Int) (x9 : Bool) (a0 : Option Addr) (n0 c0 : Nat) (a1 : Option Addr) (n1 c1 : Nat) (z : List Int) (w : World) (hz : z.length = n0 * 2) (ha : ArrI w a0 z) (m0 : n0 ≤ 1048576) :
    Calls Tryd.prog 32 #[.agg #[.int .i64 x0, .int .i64 x1, .int .i64 x2, .int .i64 x3, .int .i64 x4, .int .i64 x5, .int .i64 x6, .bool x7, .int .i64 x8, .bool x9, .slice a0 n0 c0, .slice a1 n1 c1]] w fun e w' => e = .returned (.bool (sgOK x0 x1 x2 x3 x4 x5 x6 x7 x8 n0 z)) ∧ Below w.heap.size w w' := by
  have HB : Hid (HoldV (w.alloc (.cells #[.int .i64 x0, .int .i64 x1, .int .i64 x2, .int .i64 x3, .int .i64 x4, .int .i64 x5, .int .i64 x6, .bool x7, .int .i64 x8, .bool x9, .slice a0 n0 c0, .slice a1 n1 c1] sgT)) w.heap.size _ sgT) := hide (heap_alloc_new _ _)
  have HW := hide ((Below.refl w.heap.size w).alloc (Nat.le_refl _) (.cells #[.int .i64 x0, .int .i64 x1, .int .i64 x2, .int .i64 x3, .int .i64 x4, .int .i64 x5, .int .i64 x6, .bool x7, .int .i64 x8, .bool x9, .slice a0 n0 c0, .slice a1 n1 c1] sgT))
  have HA := hide (ha.below HW.out (Nat.le_refl _))
  have HZ := hide hz
  have k0 := HB.out.cell 0 _ rfl; have k1 := HB.out.cell 1 _ rfl; have k2 := HB.out.cell 2 _ rfl; have k3 := HB.out.cell 3 _ rfl; have k4 := HB.out.cell 4 _ rfl; have k5 := HB.out.cell 5 _ rfl; have k6 := HB.out.cell 6 _ rfl; have k7 := HB.out.cell 7 _ rfl; have k8 := HB.out.cell 8 _ rfl; have k9 := HB.out.cell 9 _ rfl; have k10 := HB.out.cell 10 _ rfl; have k11 := HB.out.cell 11 _ rfl
  clear hz ha
  cases h0 : inB x0 0 65535 with
  | false =>
    have E : Hid (sgOK x0 x1 x2 x3 x4 x5 x6 x7 x8 n0 z = false) := hide (by unfold sgOK sgH; rw [h0]; simp)
    go_enter Tryd.func32, Tryd.ntmps32
    go_wp2_with (first | (go_at_call 70; refine (isPort_walk _ _).mono ?_; rintro e w2 ⟨rfl, rfl⟩) | (go_at_call 71; refine (isSeq_walk _ _).mono ?_; rintro e w2 ⟨rfl, rfl⟩))
    go_ret
    exact ⟨ret_bool E.out.symm, HW.out⟩
  | true =>
    cases h1 : inB x1 0 65535 with
    | false =>
      have E : Hid (sgOK x0 x1 x2 x3 x4 x5 x6 x7 x8 n0 z = false) := hide (by unfold sgOK sgH; rw [h1]; simp)
      go_enter Tryd.func32, Tryd.ntmps32
      go_wp2_with (first | (go_at_call 70; refine (isPort_walk _ _).mono ?_; rintro e w2 ⟨rfl, rfl⟩) | (go_at_call 71; refine (isSeq_walk _ _).mono ?_; rintro e w2 ⟨rfl, rfl⟩))
      go_ret
      exact ⟨ret_bool E.out.symm, HW.out⟩
    | true =>
      cases h2 : adrB x2 with
      | false =>
        have E : Hid (sgOK x0 x1 x2 x3 x4 x5 x6 x7 x8 n0 z = false) := hide (by unfold sgOK sgH; rw [h2]; simp)
        go_enter Tryd.func32, Tryd.ntmps32
        go_wp2_with (first | (go_at_call 70; refine (isPort_walk _ _).mono ?_; rintro e w2 ⟨rfl, rfl⟩) | (go_at_call 71; refine (isSeq_walk _ _).mono ?_; rintro e w2 ⟨rfl, rfl⟩))
        go_ret
        exact ⟨ret_bool E.out.symm, HW.out⟩
      | true =>
        cases h3 : adrB x3 with
        | false =>
          have E : Hid (sgOK x0 x1 x2 x3 x4 x5 x6 x7 x8 n0 z = false) := hide (by unfold sgOK sgH; rw [h3]; simp)
          go_enter Tryd.func32, Tryd.ntmps32
          go_wp2_with (first | (go_at_call 70; refine (isPort_walk _ _).mono ?_; rintro e w2 ⟨rfl, rfl⟩) | (go_at_call 71; refine (isSeq_walk _ _).mono ?_; rintro e w2 ⟨rfl, rfl⟩))
          go_ret
          exact ⟨ret_bool E.out.symm, HW.out⟩
        | true =>
          cases h4 : inB x4 0 63 with
          | false =>
            have E : Hid (sgOK x0 x1 x2 x3 x4 x5 x6 x7 x8 n0 z = false) := hide (by unfold sgOK sgH; rw [h4]; simp)
            by_cases g0 : 0 ≤ x4
            · have g1 : ¬ x4 ≤ 63 := fun g1 => by rw [inB_iff.2 ⟨g0, g1⟩] at h4; cases h4
              have g2 : decide (x4 ≤ 63) = false := decide_eq_false g1
              clear h4
              go_enter Tryd.func32, Tryd.ntmps32
              go_wp2_with (first | (go_at_call 70; refine (isPort_walk _ _).mono ?_; rintro e w2 ⟨rfl, rfl⟩) | (go_at_call 71; refine (isSeq_walk _ _).mono ?_; rintro e w2 ⟨rfl, rfl⟩))
              go_ret
              exact ⟨ret_bool E.out.symm, HW.out⟩
            · have g2 : decide (0 ≤ x4) = false := decide_eq_false g0
              clear h4
              go_enter Tryd.func32, Tryd.ntmps32
              go_wp2_with (first | (go_at_call 70; refine (isPort_walk _ _).mono ?_; rintro e w2 ⟨rfl, rfl⟩) | (go_at_call 71; refine (isSeq_walk _ _).mono ?_; rintro e w2 ⟨rfl, rfl⟩))
              go_ret
              exact ⟨ret_bool E.out.symm, HW.out⟩
          | true =>
            obtain ⟨l4, u4⟩ := inB_iff.1 h4
            cases h5 : inB x5 0 65535 with
            | false =>
              have E : Hid (sgOK x0 x1 x2 x3 x4 x5 x6 x7 x8 n0 z = false) := hide (by unfold sgOK sgH; rw [h5]; simp)
              by_cases g0 : 0 ≤ x5
              · have g1 : ¬ x5 ≤ 65535 := fun g1 => by rw [inB_iff.2 ⟨g0, g1⟩] at h5; cases h5
                have g2 : decide (x5 ≤ 65535) = false := decide_eq_false g1
                clear h5
                go_enter Tryd.func32, Tryd.ntmps32
                go_wp2_with (first | (go_at_call 70; refine (isPort_walk _ _).mono ?_; rintro e w2 ⟨rfl, rfl⟩) | (go_at_call 71; refine (isSeq_walk _ _).mono ?_; rintro e w2 ⟨rfl, rfl⟩))
                go_ret
                exact ⟨ret_bool E.out.symm, HW.out⟩
              · have g2 : decide (0 ≤ x5) = false := decide_eq_false g0
                clear h5
                go_enter Tryd.func32, Tryd.ntmps32
                go_wp2_with (first | (go_at_call 70; refine (isPort_walk _ _).mono ?_; rintro e w2 ⟨rfl, rfl⟩) | (go_at_call 71; refine (isSeq_walk _ _).mono ?_; rintro e w2 ⟨rfl, rfl⟩))
                go_ret
                exact ⟨ret_bool E.out.symm, HW.out⟩
            | true =>
              obtain ⟨l5, u5⟩ := inB_iff.1 h5
              cases h6 : inB x6 0 65535 with
              | false =>
                have E : Hid (sgOK x0 x1 x2 x3 x4 x5 x6 x7 x8 n0 z = false) := hide (by unfold sgOK sgH; rw [h6]; simp)
                by_cases g0 : 0 ≤ x6
                · have g1 : ¬ x6 ≤ 65535 := fun g1 => by rw [inB_iff.2 ⟨g0, g1⟩] at h6; cases h6
                  have g2 : decide (x6 ≤ 65535) = false := decide_eq_false g1
                  clear h6
                  go_enter Tryd.func32, Tryd.ntmps32
                  go_wp2_with (first | (go_at_call 70; refine (isPort_walk _ _).mono ?_; rintro e w2 ⟨rfl, rfl⟩) | (go_at_call 71; refine (isSeq_walk _ _).mono ?_; rintro e w2 ⟨rfl, rfl⟩))
                  go_ret
                  exact ⟨ret_bool E.out.symm, HW.out⟩
                · have g2 : decide (0 ≤ x6) = false := decide_eq_false g0
                  clear h6
                  go_enter Tryd.func32, Tryd.ntmps32
                  go_wp2_with (first | (go_at_call 70; refine (isPort_walk _ _).mono ?_; rintro e w2 ⟨rfl, rfl⟩) | (go_at_call 71; refine (isSeq_walk _ _).mono ?_; rintro e w2 ⟨rfl, rfl⟩))
                  go_ret
                  exact ⟨ret_bool E.out.symm, HW.out⟩
              | true =>
                obtain ⟨l6, u6⟩ := inB_iff.1 h6
                have CS := hide (fun W => validScale_walk x0 x1 x2 x3 x4 x5 x6 x7 x8 x9 a0 n0 c0 a1 n1 c1 W)
                have E : Hid (sgOK x0 x1 x2 x3 x4 x5 x6 x7 x8 n0 z = (scB x7 x8 && (decide (n0 ≤ 3) && sgS z))) := hide (by unfold sgOK sgH scB; rw [h0, h1, h2, h3, h4, h5, h6]; simp only [Bool.true_and, Bool.and_assoc])
                clear h4 h5 h6
                go_enter Tryd.func32, Tryd.ntmps32
                go_wp2_with (first | (go_at_call 70; refine (isPort_walk _ _).mono ?_; rintro e w2 ⟨rfl, rfl⟩) | (go_at_call 71; refine (isSeq_walk _ _).mono ?_; rintro e w2 ⟨rfl, rfl⟩))
                refine (CS.out _).mono ?_
                rintro e w1 ⟨rfl, hb1⟩
                have HB1 := hide (HB.out.next hb1); have HW1 := hide (below_on HW.out hb1)
                have CK := hide (validSacks_walk a0 n0 c0 z w1 HZ.out (HA.out.below hb1 (Nat.le_refl _)) m0)
                clear hb1 HB HW HA CS k0 k1 k2 k3 k4 k5 k6 k7 k8 k9 k10 k11
                have k10 := HB1.out.cell 10 _ rfl
                generalize (decide (n0 ≤ 3) && sgS z) = q at *
                generalize scB x7 x8 = p at *
                cases p
                · go_wp2_with fail
                  go_ret
                  exact ⟨ret_bool (by rw [E.out]; rfl), HW1.out⟩
                · go_wp2_with fail
                  refine CK.out.mono ?_
                  rintro e w2 ⟨rfl, hb2⟩
                  have HW2 := hide (below_on HW1.out hb2)
                  clear hb2
                  go_wp2_with fail
                  go_ret
                  exact ⟨ret_bool (by rw [E.out]; rfl), HW2.out⟩
end Go.Proofs.YtcnfnimgpiaamaaDoor
