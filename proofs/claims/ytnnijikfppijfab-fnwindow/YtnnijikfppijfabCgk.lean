/-
Contracts of functions of this seat.
-/
import Derived.Test.YtnnijikfppijfabRows
import Derived.WalkKit
import Derived.ProofKit
import Derived.OpenShut
import Derived.Test.YtnnijikfppijfabRb
namespace Go.Proofs.Ytnnijikfppijfab
open Go.ChangeShapes Go.WideShapes Go.ChangeAt Go.RowKit
set_option linter.unusedVariables false
set_option maxRecDepth 100000
/-- A Cong is valid. -/
def cgB (m c t n : Int) : Bool := inB m 1 65535 && inB c m 1073741824 && inB t (2 * m) 1073741824 && inB n 0 (c - 1)
theorem inB_noc {x l h : Int} (hh : ¬ (l ≤ x ∧ x ≤ h)) : inB x l h = false := by unfold inB; exact decide_eq_false hh
theorem cgB_iff {m c t n : Int} : cgB m c t n = true ↔ (1 ≤ m ∧ m ≤ 65535) ∧ (m ≤ c ∧ c ≤ 1073741824) ∧ (2 * m ≤ t ∧ t ≤ 1073741824) ∧ (0 ≤ n ∧ n ≤ c - 1) := by
  unfold cgB
  simp only [Bool.and_eq_true, inB_iff]
  constructor
  · rintro ⟨⟨⟨a, b⟩, c⟩, d⟩; exact ⟨a, b, c, d⟩
  · rintro ⟨a, b, c, d⟩; exact ⟨⟨⟨a, b⟩, c⟩, d⟩
set_option maxHeartbeats 4000000 in
theorem l14OK_walk (m c t n : Int) (w : World) : Calls Try.prog 30 #[.agg #[.int .i64 m, .int .i64 c, .int .i64 t, .int .i64 n]] w fun e w' => e = .returned (.bool (cgB m c t n)) ∧ Below w.heap.size w w' := by
  have HB : Hid (HoldV (w.alloc (.cells #[.int .i64 m, .int .i64 c, .int .i64 t, .int .i64 n] 32)) w.heap.size _ 32) := hide (heap_alloc_new _ _)
  have HW := hide ((Below.refl w.heap.size w).alloc (Nat.le_refl _) (.cells #[.int .i64 m, .int .i64 c, .int .i64 t, .int .i64 n] 32))
  have k0 := HB.out.cell 0 _ rfl; have k1 := HB.out.cell 1 _ rfl; have k2 := HB.out.cell 2 _ rfl; have k3 := HB.out.cell 3 _ rfl
  cases h0 : inB m 1 65535 with
  | false =>
    have E : Hid (cgB m c t n = false) := hide (by unfold cgB; rw [h0]; simp)
    go_enter Try.func30, Try.ntmps30
    go_wp2_with (go_at_call 31; refine (In_walk _ _ _ _).mono ?_; rintro e w2 ⟨rfl, rfl⟩)
    go_ret
    exact ⟨ret_bool E.out.symm, HW.out⟩
  | true =>
    obtain ⟨p0, q0⟩ := inB_iff.1 h0
    cases h1 : inB c m 1073741824 with
    | false =>
      have E : Hid (cgB m c t n = false) := hide (by unfold cgB; rw [h1]; simp)
      go_enter Try.func30, Try.ntmps30
      go_wp2_with (go_at_call 31; refine (In_walk _ _ _ _).mono ?_; rintro e w2 ⟨rfl, rfl⟩)
      go_ret
      exact ⟨ret_bool E.out.symm, HW.out⟩
    | true =>
      obtain ⟨p1, q1⟩ := inB_iff.1 h1
      cases h2 : inB t (2 * m) 1073741824 with
      | false =>
        have E : Hid (cgB m c t n = false) := hide (by unfold cgB; rw [h2]; simp)
        go_enter Try.func30, Try.ntmps30
        go_wp2_with (go_at_call 31; refine (In_walk _ _ _ _).mono ?_; rintro e w2 ⟨rfl, rfl⟩)
        go_ret
        exact ⟨ret_bool E.out.symm, HW.out⟩
      | true =>
        obtain ⟨p2, q2⟩ := inB_iff.1 h2
        have E : Hid (cgB m c t n = inB n 0 (c - 1)) := hide (by unfold cgB; rw [h0, h1, h2]; simp)
        go_enter Try.func30, Try.ntmps30
        go_wp2_with (go_at_call 31; refine (In_walk _ _ _ _).mono ?_; rintro e w2 ⟨rfl, rfl⟩)
        go_ret
        exact ⟨ret_bool E.out.symm, HW.out⟩
theorem isMss_walk (x : Int) (w : World) : Calls Try.prog 36 #[.int .i64 x] w fun e w' => e = .returned (.bool (inB x 1 65535)) ∧ w' = w := by
  by_cases h : 1 ≤ x ∧ x ≤ 65535
  · rw [inB_iff.2 h]
    obtain ⟨h1, h2⟩ := h
    go_enter Try.func36, Try.ntmps36
    go_wp2
    go_ret
    exact ⟨rfl, rfl⟩
  · rw [inB_noc h]
    by_cases h1 : 1 ≤ x
    · have h2 : ¬ x ≤ 65535 := fun h2 => h ⟨h1, h2⟩
      clear h
      go_enter Try.func36, Try.ntmps36
      go_wp2
      go_ret
      exact ⟨rfl, rfl⟩
    · clear h
      go_enter Try.func36, Try.ntmps36
      go_wp2
      go_ret
      exact ⟨rfl, rfl⟩
theorem isCwnd_walk (x l : Int) (w : World) : Calls Try.prog 34 #[.int .i64 x, .int .i64 l] w fun e w' => e = .returned (.bool (inB x l 1073741824)) ∧ w' = w := by
  by_cases h : l ≤ x ∧ x ≤ 1073741824
  · rw [inB_iff.2 h]
    obtain ⟨h1, h2⟩ := h
    go_enter Try.func34, Try.ntmps34
    go_wp2
    go_ret
    exact ⟨rfl, rfl⟩
  · rw [inB_noc h]
    by_cases h1 : l ≤ x
    · have h2 : ¬ x ≤ 1073741824 := fun h2 => h ⟨h1, h2⟩
      clear h
      go_enter Try.func34, Try.ntmps34
      go_wp2
      go_ret
      exact ⟨rfl, rfl⟩
    · clear h
      go_enter Try.func34, Try.ntmps34
      go_wp2
      go_ret
      exact ⟨rfl, rfl⟩
theorem least_walk (x : Int) (w : World) (h0 : 0 ≤ x) (h1 : x ≤ 65535) : Calls Try.prog 41 #[.int .i64 x] w fun e w' => e = .returned (.int .i64 (2 * x)) ∧ w' = w := by
  go_enter Try.func41, Try.ntmps41
  go_wp2
  go_ret
  exact ⟨rfl, rfl⟩
end Go.Proofs.Ytnnijikfppijfab
