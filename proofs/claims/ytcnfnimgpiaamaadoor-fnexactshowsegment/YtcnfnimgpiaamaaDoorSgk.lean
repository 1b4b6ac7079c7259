/-
Contracts of functions of this seat.
-/
import Derived.Test.YtcnfnimgpiaamaaDoorRows
import Derived.WalkKit
import Derived.ProofKit
import Derived.OpenShut
import Derived.Test.YtcnfnimgpiaamaaDoorSgl
namespace Go.Proofs.YtcnfnimgpiaamaaDoor
open Go.ChangeShapes Go.WideShapes Go.ChangeAt Go.RowKit
set_option linter.unusedVariables false
set_option maxRecDepth 100000
/-- What a segment's numbers must be. -/
def sgH (x0 x1 x2 x3 x4 x5 x6 : Int) (x7 : Bool) (x8 : Int) (n0 : Nat) : Bool := inB x0 0 65535 && inB x1 0 65535 && adrB x2 && adrB x3 && inB x4 0 63 && inB x5 0 65535 && inB x6 0 65535 && inB x8 0 14 && (x7 || x8 == 0) && decide (n0 ≤ 3)
def sgS (z : List Int) : Bool := z.all adrB
def sgOK (x0 x1 x2 x3 x4 x5 x6 : Int) (x7 : Bool) (x8 : Int) (n0 : Nat) (z : List Int) : Bool := sgH x0 x1 x2 x3 x4 x5 x6 x7 x8 n0 && sgS z
theorem l11Seq_walk (a : Int) (w : World) : Calls Tryd.prog 67 #[.int .i64 a] w fun e w' => e = .returned (.bool (adrB a)) ∧ w' = w := by
  go_enter Tryd.func67, Tryd.ntmps67
  go_wp2_with fail
  refine (specAddrOK_walk a _).mono ?_
  rintro e w' ⟨rfl, rfl⟩
  go_wp2_with fail
  go_ret
  exact ⟨rfl, rfl⟩
theorem specPrt_walk (p : Int) (w : World) : Calls Tryd.prog 66 #[.int .i64 p] w fun e w' => e = .returned (.bool (inB p 0 65535)) ∧ w' = w := by
  go_enter Tryd.func66, Tryd.ntmps66
  go_wp2_with fail
  refine (In_walk p 0 65535 _).mono ?_
  rintro e w' ⟨rfl, rfl⟩
  go_wp2_with fail
  go_ret
  exact ⟨rfl, rfl⟩
theorem sgS_at {z : List Int} (h : sgS z = true) (j : Nat) (hj : j < z.length) : adrB (z.getD j 0) = true := by
  unfold sgS at h
  rw [List.all_eq_true] at h
  rw [List.getD_eq_getElem?_getD, List.getElem?_eq_getElem hj]
  exact h _ (List.getElem_mem hj)
theorem sgS_no {z : List Int} (j : Nat) (hj : j < z.length) (h : adrB (z.getD j 0) = false) : sgS z = false := by
  cases hs : sgS z with
  | false => rfl
  | true => rw [sgS_at hs j hj] at h; cases h
theorem sgS_yes {z : List Int} (h : ∀ j, j < z.length → adrB (z.getD j 0) = true) : sgS z = true := by
  unfold sgS
  rw [List.all_eq_true]
  intro x hx
  obtain ⟨j, hj, e⟩ := List.getElem_of_mem hx
  have := h j hj
  rw [List.getD_eq_getElem?_getD, List.getElem?_eq_getElem hj] at this
  rw [← e]; exact this
set_option maxHeartbeats 8000000 in
theorem l11OK_walk (x0 x1 x2 x3 x4 x5 x6 : Int) (x7 : Bool) (x8 : Int) (x9 : Bool) (a0 : Option Addr) (n0 c0 : Nat) (a1 : Option Addr) (n1 c1 : Nat) (z : List Int) (w : World) (hz : z.length = n0 * 2) (ha : ArrI w a0 z) (m0 : n0 ≤ 1048576) :
    Calls Tryd.prog 26 #[.agg #[.int .i64 x0, .int .i64 x1, .int .i64 x2, .int .i64 x3, .int .i64 x4, .int .i64 x5, .int .i64 x6, .bool x7, .int .i64 x8, .bool x9, .slice a0 n0 c0, .slice a1 n1 c1]] w fun e w' => e = .returned (.bool (sgOK x0 x1 x2 x3 x4 x5 x6 x7 x8 n0 z)) ∧ Below w.heap.size w w' := by
  have HB : Hid (HoldV (w.alloc (.cells #[.int .i64 x0, .int .i64 x1, .int .i64 x2, .int .i64 x3, .int .i64 x4, .int .i64 x5, .int .i64 x6, .bool x7, .int .i64 x8, .bool x9, .slice a0 n0 c0, .slice a1 n1 c1] sgT)) w.heap.size _ sgT) := hide (heap_alloc_new _ _)
  have HW := hide ((Below.refl w.heap.size w).alloc (Nat.le_refl _) (.cells #[.int .i64 x0, .int .i64 x1, .int .i64 x2, .int .i64 x3, .int .i64 x4, .int .i64 x5, .int .i64 x6, .bool x7, .int .i64 x8, .bool x9, .slice a0 n0 c0, .slice a1 n1 c1] sgT))
  have HA := hide (ha.below HW.out (Nat.le_refl _))
  have HZ := hide hz
  have k0 := HB.out.cell 0 _ rfl; have k1 := HB.out.cell 1 _ rfl; have k2 := HB.out.cell 2 _ rfl; have k3 := HB.out.cell 3 _ rfl; have k4 := HB.out.cell 4 _ rfl; have k5 := HB.out.cell 5 _ rfl; have k6 := HB.out.cell 6 _ rfl; have k7 := HB.out.cell 7 _ rfl; have k8 := HB.out.cell 8 _ rfl; have k9 := HB.out.cell 9 _ rfl; have k10 := HB.out.cell 10 _ rfl; have k11 := HB.out.cell 11 _ rfl
  clear hz ha
  cases h0 : inB x0 0 65535 with
  | false =>
    have E : Hid (sgOK x0 x1 x2 x3 x4 x5 x6 x7 x8 n0 z = false) := hide (by unfold sgOK sgH; rw [h0]; simp)
    go_enter Tryd.func26, Tryd.ntmps26
    go_wp2_with (first | (go_at_call 68; refine (In_walk _ _ _ _).mono ?_; rintro e w2 ⟨rfl, rfl⟩) | (go_at_call 66; refine (specPrt_walk _ _).mono ?_; rintro e w2 ⟨rfl, rfl⟩) | (go_at_call 67; refine (l11Seq_walk _ _).mono ?_; rintro e w2 ⟨rfl, rfl⟩))
    go_ret
    exact ⟨ret_bool E.out.symm, HW.out⟩
  | true =>
    cases h1 : inB x1 0 65535 with
    | false =>
      have E : Hid (sgOK x0 x1 x2 x3 x4 x5 x6 x7 x8 n0 z = false) := hide (by unfold sgOK sgH; rw [h1]; simp)
      go_enter Tryd.func26, Tryd.ntmps26
      go_wp2_with (first | (go_at_call 68; refine (In_walk _ _ _ _).mono ?_; rintro e w2 ⟨rfl, rfl⟩) | (go_at_call 66; refine (specPrt_walk _ _).mono ?_; rintro e w2 ⟨rfl, rfl⟩) | (go_at_call 67; refine (l11Seq_walk _ _).mono ?_; rintro e w2 ⟨rfl, rfl⟩))
      go_ret
      exact ⟨ret_bool E.out.symm, HW.out⟩
    | true =>
      cases h2 : adrB x2 with
      | false =>
        have E : Hid (sgOK x0 x1 x2 x3 x4 x5 x6 x7 x8 n0 z = false) := hide (by unfold sgOK sgH; rw [h2]; simp)
        go_enter Tryd.func26, Tryd.ntmps26
        go_wp2_with (first | (go_at_call 68; refine (In_walk _ _ _ _).mono ?_; rintro e w2 ⟨rfl, rfl⟩) | (go_at_call 66; refine (specPrt_walk _ _).mono ?_; rintro e w2 ⟨rfl, rfl⟩) | (go_at_call 67; refine (l11Seq_walk _ _).mono ?_; rintro e w2 ⟨rfl, rfl⟩))
        go_ret
        exact ⟨ret_bool E.out.symm, HW.out⟩
      | true =>
        cases h3 : adrB x3 with
        | false =>
          have E : Hid (sgOK x0 x1 x2 x3 x4 x5 x6 x7 x8 n0 z = false) := hide (by unfold sgOK sgH; rw [h3]; simp)
          go_enter Tryd.func26, Tryd.ntmps26
          go_wp2_with (first | (go_at_call 68; refine (In_walk _ _ _ _).mono ?_; rintro e w2 ⟨rfl, rfl⟩) | (go_at_call 66; refine (specPrt_walk _ _).mono ?_; rintro e w2 ⟨rfl, rfl⟩) | (go_at_call 67; refine (l11Seq_walk _ _).mono ?_; rintro e w2 ⟨rfl, rfl⟩))
          go_ret
          exact ⟨ret_bool E.out.symm, HW.out⟩
        | true =>
          cases h4 : inB x4 0 63 with
          | false =>
            have E : Hid (sgOK x0 x1 x2 x3 x4 x5 x6 x7 x8 n0 z = false) := hide (by unfold sgOK sgH; rw [h4]; simp)
            go_enter Tryd.func26, Tryd.ntmps26
            go_wp2_with (first | (go_at_call 68; refine (In_walk _ _ _ _).mono ?_; rintro e w2 ⟨rfl, rfl⟩) | (go_at_call 66; refine (specPrt_walk _ _).mono ?_; rintro e w2 ⟨rfl, rfl⟩) | (go_at_call 67; refine (l11Seq_walk _ _).mono ?_; rintro e w2 ⟨rfl, rfl⟩))
            go_ret
            exact ⟨ret_bool E.out.symm, HW.out⟩
          | true =>
            cases h5 : inB x5 0 65535 with
            | false =>
              have E : Hid (sgOK x0 x1 x2 x3 x4 x5 x6 x7 x8 n0 z = false) := hide (by unfold sgOK sgH; rw [h5]; simp)
              go_enter Tryd.func26, Tryd.ntmps26
              go_wp2_with (first | (go_at_call 68; refine (In_walk _ _ _ _).mono ?_; rintro e w2 ⟨rfl, rfl⟩) | (go_at_call 66; refine (specPrt_walk _ _).mono ?_; rintro e w2 ⟨rfl, rfl⟩) | (go_at_call 67; refine (l11Seq_walk _ _).mono ?_; rintro e w2 ⟨rfl, rfl⟩))
              go_ret
              exact ⟨ret_bool E.out.symm, HW.out⟩
            | true =>
              cases h6 : inB x6 0 65535 with
              | false =>
                have E : Hid (sgOK x0 x1 x2 x3 x4 x5 x6 x7 x8 n0 z = false) := hide (by unfold sgOK sgH; rw [h6]; simp)
                go_enter Tryd.func26, Tryd.ntmps26
                go_wp2_with (first | (go_at_call 68; refine (In_walk _ _ _ _).mono ?_; rintro e w2 ⟨rfl, rfl⟩) | (go_at_call 66; refine (specPrt_walk _ _).mono ?_; rintro e w2 ⟨rfl, rfl⟩) | (go_at_call 67; refine (l11Seq_walk _ _).mono ?_; rintro e w2 ⟨rfl, rfl⟩))
                go_ret
                exact ⟨ret_bool E.out.symm, HW.out⟩
              | true =>
                cases h7 : inB x8 0 14 with
                | false =>
                  have E : Hid (sgOK x0 x1 x2 x3 x4 x5 x6 x7 x8 n0 z = false) := hide (by unfold sgOK sgH; rw [h7]; simp)
                  go_enter Tryd.func26, Tryd.ntmps26
                  go_wp2_with (first | (go_at_call 68; refine (In_walk _ _ _ _).mono ?_; rintro e w2 ⟨rfl, rfl⟩) | (go_at_call 66; refine (specPrt_walk _ _).mono ?_; rintro e w2 ⟨rfl, rfl⟩) | (go_at_call 67; refine (l11Seq_walk _ _).mono ?_; rintro e w2 ⟨rfl, rfl⟩))
                  go_ret
                  exact ⟨ret_bool E.out.symm, HW.out⟩
                | true =>
                  by_cases h8 : x7 = false ∧ x8 ≠ 0
                  · obtain ⟨h7, h80⟩ := h8
                    have hb8 : (x8 == 0) = false := beq_eq_false_iff_ne.2 h80
                    have hc8 : (x8 != 0) = true := by simp [h80]
                    subst h7
                    clear h80
                    have E : Hid (sgOK x0 x1 x2 x3 x4 x5 x6 false x8 n0 z = false) := hide (by unfold sgOK sgH; rw [hb8]; simp)
                    go_enter Tryd.func26, Tryd.ntmps26
                    go_wp2_with (first | (go_at_call 68; refine (In_walk _ _ _ _).mono ?_; rintro e w2 ⟨rfl, rfl⟩) | (go_at_call 66; refine (specPrt_walk _ _).mono ?_; rintro e w2 ⟨rfl, rfl⟩) | (go_at_call 67; refine (l11Seq_walk _ _).mono ?_; rintro e w2 ⟨rfl, rfl⟩))
                    go_ret
                    exact ⟨ret_bool E.out.symm, HW.out⟩
                  by_cases h9 : 3 < n0
                  · have h9i : (3 : Int) < (n0 : Int) := by omega
                    have h9d : decide (n0 ≤ 3) = false := decide_eq_false (by omega)
                    cases x7
                    · have hx8 : x8 = 0 := by simp at h8; exact h8
                      subst hx8
                      have E : Hid (sgOK x0 x1 x2 x3 x4 x5 x6 false 0 n0 z = false) := hide (by unfold sgOK sgH; rw [h9d]; simp)
                      go_enter Tryd.func26, Tryd.ntmps26
                      go_wp2_with (first | (go_at_call 68; refine (In_walk _ _ _ _).mono ?_; rintro e w2 ⟨rfl, rfl⟩) | (go_at_call 66; refine (specPrt_walk _ _).mono ?_; rintro e w2 ⟨rfl, rfl⟩) | (go_at_call 67; refine (l11Seq_walk _ _).mono ?_; rintro e w2 ⟨rfl, rfl⟩))
                      go_ret
                      exact ⟨ret_bool E.out.symm, HW.out⟩
                    · have E : Hid (sgOK x0 x1 x2 x3 x4 x5 x6 true x8 n0 z = false) := hide (by unfold sgOK sgH; rw [h9d]; simp)
                      go_enter Tryd.func26, Tryd.ntmps26
                      go_wp2_with (first | (go_at_call 68; refine (In_walk _ _ _ _).mono ?_; rintro e w2 ⟨rfl, rfl⟩) | (go_at_call 66; refine (specPrt_walk _ _).mono ?_; rintro e w2 ⟨rfl, rfl⟩) | (go_at_call 67; refine (l11Seq_walk _ _).mono ?_; rintro e w2 ⟨rfl, rfl⟩))
                      go_ret
                      exact ⟨ret_bool E.out.symm, HW.out⟩
                  have h9i : ¬ (3 : Int) < (n0 : Int) := by omega
                  have h89 : (x7 || x8 == 0) = true := by cases x7 <;> simp at h8 ⊢; exact h8
                  have E : Hid (sgOK x0 x1 x2 x3 x4 x5 x6 x7 x8 n0 z = sgS z) := hide (by unfold sgOK sgH; rw [h0, h1, h2, h3, h4, h5, h6, h7, h89, decide_eq_true (show n0 ≤ 3 by omega)]; simp)
                  have h3n : n0 ≤ 3 := by omega
                  clear h89 h9
                  go_enter Tryd.func26, Tryd.ntmps26
                  have hxx : x7 = true ∨ (x7 = false ∧ x8 = 0) := by cases x7 <;> simp at h8 ⊢; exact h8
                  clear h8
                  rcases hxx with rfl | ⟨rfl, rfl⟩
                  all_goals
                    go_wp2_with (first | (go_at_call 68; refine (In_walk _ _ _ _).mono ?_; rintro e w2 ⟨rfl, rfl⟩) | (go_at_call 66; refine (specPrt_walk _ _).mono ?_; rintro e w2 ⟨rfl, rfl⟩) | (go_at_call 67; refine (l11Seq_walk _ _).mono ?_; rintro e w2 ⟨rfl, rfl⟩))
                    clear k0 k1 k2 k3 k4 k5 k6 k7 k8 k9 k11
                    generalize hWW : w.alloc (.cells _ sgT) = W at *
                    clear hWW
                    go_loopw [3] (fun t w2 => ∃ k : Nat, k ≤ n0 ∧ t = .int .i64 (k : Int) ∧ w2 = W ∧ Hid (∀ q, q < 2 * k → adrB (z.getD q 0) = true)) (fun t _ => n0 - (intOf t).toNat)
                    case atStart => exact ⟨0, Nat.zero_le _, rfl, rfl, hide (fun q hq => by omega)⟩
                    case round =>
                      obtain ⟨k, hk, rfl, rfl, HQ⟩ := hrel
                      by_cases hlt : k < n0
                      · obtain ⟨b, off, rfl, hb1, hc1⟩ := HA.out (k * 2) (by have := HZ.out; omega)
                        obtain ⟨b2, off2, e2, hb2, hc2⟩ := HA.out (k * 2 + 1) (by have := HZ.out; omega)
                        injection e2 with e2; injection e2 with e3 e4; subst e3 e4
                        have hc3 : wr.cell? ⟨b, off + k * 2 + 1, none⟩ = some (.int .i64 (z.getD (k * 2 + 1) 0)) := hc2
                        have CF := hide (fun W => l11Seq_walk (z.getD (k * 2) 0) W)
                        have CT := hide (fun W => l11Seq_walk (z.getD (k * 2 + 1) 0) W)
                        cases hf : adrB (z.getD (k * 2) 0) with
                        | false =>
                          have E2 := hide (sgS_no (z := z) (k * 2) (by have := HZ.out; omega) hf)
                          rw [hf] at CF
                          clear hf hc2
                          generalize z.getD (k * 2) 0 = u at *
                          go_wp2_with fail
                          refine (CF.out _).mono ?_
                          rintro e w2 ⟨rfl, rfl⟩
                          go_wp2_with fail
                          go_ret
                          exact ⟨ret_bool (by rw [E.out, E2.out]), HW.out⟩
                        | true =>
                          cases ht : adrB (z.getD (k * 2 + 1) 0) with
                          | false =>
                            have E2 := hide (sgS_no (z := z) (k * 2 + 1) (by have := HZ.out; omega) ht)
                            rw [hf] at CF
                            rw [ht] at CT
                            clear hf ht hc2
                            generalize z.getD (k * 2) 0 = u at *
                            generalize z.getD (k * 2 + 1) 0 = v at *
                            go_wp2_with fail
                            refine (CF.out _).mono ?_
                            rintro e w2 ⟨rfl, rfl⟩
                            go_wp2_with fail
                            refine (CT.out _).mono ?_
                            rintro e w2 ⟨rfl, rfl⟩
                            go_wp2_with fail
                            go_ret
                            exact ⟨ret_bool (by rw [E.out, E2.out]), HW.out⟩
                          | true =>
                            have HQ2 : Hid (∀ q, q < 2 * (k + 1) → adrB (z.getD q 0) = true) := hide (fun q hq => by
                              rcases (show q < 2 * k ∨ q = k * 2 ∨ q = k * 2 + 1 by omega) with h | rfl | rfl
                              · exact HQ.out q h
                              · exact hf
                              · exact ht)
                            rw [hf] at CF
                            rw [ht] at CT
                            clear hf ht hc2
                            generalize z.getD (k * 2) 0 = u at hc1 hc3 CF CT
                            generalize z.getD (k * 2 + 1) 0 = v at hc3 CT
                            go_wp2_with fail
                            refine (CF.out _).mono ?_
                            rintro e w2 ⟨rfl, rfl⟩
                            go_wp2_with fail
                            refine (CT.out _).mono ?_
                            rintro e w2 ⟨rfl, rfl⟩
                            go_wp2_with fail
                            exact ⟨⟨k + 1, by omega, by go_num, trivial, HQ2⟩, by simp [intOf]; omega⟩
                      · have hkn : k = n0 := by omega
                        subst hkn
                        have hS : sgS z = true := sgS_yes (fun q hq => HQ.out q (by have := HZ.out; omega))
                        have E2 := hide hS
                        clear hS
                        go_wp2_with fail
                        go_ret
                        exact ⟨ret_bool (by rw [E.out, E2.out]), HW.out⟩
end Go.Proofs.YtcnfnimgpiaamaaDoor
