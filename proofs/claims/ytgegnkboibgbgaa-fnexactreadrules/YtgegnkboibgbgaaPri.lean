/-
Contracts of functions of this seat.
-/
import Derived.Test.YtgegnkboibgbgaaRows
import Derived.WalkKit
import Derived.ProofKit
import Derived.OpenShut
import Derived.Test.YtgegnkboibgbgaaPrf
import Derived.Test.YtgegnkboibgbgaaAkd2
import Derived.RegionTactic
import Derived.Deep.RegionWith
namespace Go.Proofs.Ytgegnkboibgbgaa
open Go.ChangeShapes Go.WideShapes Go.ChangeAt Go.RowKit
set_option linter.unusedVariables false
set_option maxRecDepth 100000
theorem eqPref (a b c d : Int) (w : World) : (Op.equalIn 10000 37 (.agg #[.int .i64 a, .int .i64 b]) (.agg #[.int .i64 c, .int .i64 d])).run Try.prog w = .ok (a == c && b == d) w := by
  have u3 := Try.underlying2
  have a3 := Try.isAgg2
  have z3 := Try.sizeOf2
  have hS : Try.prog.underlying 37 = some (.struct (Try.prog.fieldsOf 37)) := by kernel_rfl
  rw [show (10000 : Nat) = 9999 + 1 from rfl, run_equalIn_agg w 9999 37 _ _ hS (by kernel_rfl)]
  simp only [Program.fieldsOf, Try.underlying37]
  go_simp
  by_cases h1 : a = c <;> by_cases h2 : b = d <;> simp [h1, h2]
theorem hostPart_walk (b : Int) (h0 : 0 ≤ b) (h1 : b ≤ 32) (w : World) :
    Calls Try.prog 84 #[.int .i64 b] w fun e w' => e = .returned (.int .i64 (sz b - 1)) ∧ w' = w := by
  have HE := hide (host_eq b h0 h1)
  go_enter Try.func84, Try.ntmps84
  go_wp2
  go_ret
  exact ⟨ret_int (by rw [← HE.out]), rfl⟩
theorem around_walk (a b : Int) (ha : 0 ≤ a) (ha1 : a ≤ 4294967295) (h0 : 0 ≤ b) (h1 : b ≤ 32) (w : World) :
    Calls Try.prog 80 #[.int .i64 a, .int .i64 b] w fun e w' => e = .returned (.agg #[.int .i64 (a - a % sz b), .int .i64 b]) ∧ Below w.heap.size w w' := by
  have HE := andNot_sz a b ha ha1
  have hp := sz_pos b
  go_enter Try.func80, Try.ntmps80
  go_wp2_with (go_at_call 84; refine (hostPart_walk _ h0 h1 _).mono ?_; rintro e w' ⟨rfl, rfl⟩)
  exact bodyPost_ret (v := .agg #[.int .i64 (a - a % sz b), .int .i64 b]) (by simp [results, Try.results80, go_sem]) rfl ⟨rfl, (Below.refl _ _).alloc (Nat.le_refl _) _⟩
theorem prefB_eq {a b : Int} (h0 : 0 ≤ b) (h1 : b ≤ 32) (h2 : adrB a = true) : prefB a b = (a == a - a % sz b) := by
  rw [prefB_true h0 h1 h2, Bool.eq_iff_iff]; simp; omega
set_option maxHeartbeats 2000000 in
theorem valid_yes (a b : Int) (w : World) (h0 : 0 ≤ b) (h1 : b ≤ 32) (ha : adrB a = true) :
    Calls Try.prog 66 #[.agg #[.int .i64 a, .int .i64 b]] w fun e w' => e = .returned (.bool (prefB a b)) ∧ Below w.heap.size w w' := by
  have hab := adrB_iff.1 ha
  have HP := hide (prefB_eq h0 h1 ha)
  have heq := eqPref a b (a - a % sz b) b
  go_enter Try.func66, Try.ntmps66
  go_wp2_with fail
  go_region_held3 (fun w' => Below w.heap.size w w' ∧ w.heap.size < w'.heap.size ∧ w'.cell? ⟨w.heap.size, 0, none⟩ = some (.int .i64 a) ∧ w'.cell? ⟨w.heap.size, 1, none⟩ = some (.int .i64 b))
    (first | exact boxS_start w _ _ _ | assumption | exact boxS_below (by assumption) (by assumption))
    (first
      | (go_at_call 76; refine (isAddr_walk _ _).mono ?_; rintro e w' ⟨rfl, rfl⟩)
      | (go_at_call 80; refine (around_walk _ _ hab.1 hab.2 h0 h1 _).mono ?_; rintro e w' ⟨rfl, hbel⟩))
  go_wp2
  go_ret
  refine ⟨ret_bool HP.out.symm, ?_⟩
  rename_i hh
  exact hh.1
set_option maxHeartbeats 1000000 in
theorem valid_neg (a b : Int) (w : World) (h0 : ¬ 0 ≤ b) :
    Calls Try.prog 66 #[.agg #[.int .i64 a, .int .i64 b]] w fun e w' => e = .returned (.bool (prefB a b)) ∧ Below w.heap.size w w' := by
  have HP := hide (prefB_neg (a := a) h0)
  have hd : decide (0 ≤ b) = false := by simpa using h0
  clear h0
  go_enter Try.func66, Try.ntmps66
  go_wp2_with fail
  go_quiet (fail)
  go_wp2
  go_ret
  exact ⟨ret_bool HP.out.symm, below_drewN ((Below.refl _ _).alloc (Nat.le_refl _) _) nq⟩
set_option maxHeartbeats 1000000 in
theorem valid_big (a b : Int) (w : World) (h0 : 0 ≤ b) (h1 : ¬ b ≤ 32) :
    Calls Try.prog 66 #[.agg #[.int .i64 a, .int .i64 b]] w fun e w' => e = .returned (.bool (prefB a b)) ∧ Below w.heap.size w w' := by
  have HP := hide (prefB_big (a := a) h1)
  have hd : decide (b ≤ 32) = false := by simpa using h1
  clear h1
  go_enter Try.func66, Try.ntmps66
  go_wp2_with fail
  go_quiet (fail)
  go_wp2
  go_ret
  exact ⟨ret_bool HP.out.symm, below_drewN ((Below.refl _ _).alloc (Nat.le_refl _) _) nq⟩
set_option maxHeartbeats 1000000 in
theorem valid_adr (a b : Int) (w : World) (h0 : 0 ≤ b) (h1 : b ≤ 32) (ha : adrB a = false) :
    Calls Try.prog 66 #[.agg #[.int .i64 a, .int .i64 b]] w fun e w' => e = .returned (.bool (prefB a b)) ∧ Below w.heap.size w w' := by
  have HP := hide (prefB_adr (b := b) ha)
  go_enter Try.func66, Try.ntmps66
  go_wp2_with fail
  go_quiet ((go_at_call 76; refine Calls.quiet_of_same (isAddr_walk _ _)))
  go_wp2
  go_ret
  exact ⟨ret_bool HP.out.symm, below_drewN ((Below.refl _ _).alloc (Nat.le_refl _) _) nq⟩
theorem valid_walk (a b : Int) (w : World) :
    Calls Try.prog 66 #[.agg #[.int .i64 a, .int .i64 b]] w fun e w' => e = .returned (.bool (prefB a b)) ∧ Below w.heap.size w w' := by
  by_cases h0 : 0 ≤ b
  · by_cases h1 : b ≤ 32
    · by_cases ha : adrB a = true
      · exact valid_yes a b w h0 h1 ha
      · exact valid_adr a b w h0 h1 (by simpa using ha)
    · exact valid_big a b w h0 h1
  · exact valid_neg a b w h0
end Go.Proofs.Ytgegnkboibgbgaa
