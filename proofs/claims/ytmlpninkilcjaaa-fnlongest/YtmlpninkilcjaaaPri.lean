/-
Contracts of functions of this seat.
-/
import Derived.Test.YtmlpninkilcjaaaRows
import Derived.WalkKit
import Derived.ProofKit
import Derived.OpenShut
import Derived.Test.YtmlpninkilcjaaaPrf
import Derived.Test.YtmlpninkilcjaaaAkd
import Derived.RegionTactic
import Derived.Deep.RegionWith
namespace Go.Proofs.Ytmlpninkilcjaaa
open Go.ChangeShapes Go.WideShapes Go.ChangeAt Go.RowKit
set_option linter.unusedVariables false
set_option maxRecDepth 100000
theorem eqPref (a b c d : Int) (w : World) : (Op.equalIn 10000 25 (.agg #[.int .i64 a, .int .i64 b]) (.agg #[.int .i64 c, .int .i64 d])).run Try.prog w = .ok (a == c && b == d) w := by
  have u3 := Try.underlying2
  have a3 := Try.isAgg2
  have z3 := Try.sizeOf2
  have hS : Try.prog.underlying 25 = some (.struct (Try.prog.fieldsOf 25)) := by kernel_rfl
  rw [show (10000 : Nat) = 9999 + 1 from rfl, run_equalIn_agg w 9999 25 _ _ hS (by kernel_rfl)]
  simp only [Program.fieldsOf, Try.underlying25]
  go_simp
  by_cases h1 : a = c <;> by_cases h2 : b = d <;> simp [h1, h2]
theorem hostPart_walk (b : Int) (h0 : 0 ≤ b) (h1 : b ≤ 32) (w : World) :
    Calls Try.prog 77 #[.int .i64 b] w fun e w' => e = .returned (.int .i64 (sz b - 1)) ∧ w' = w := by
  have HE := hide (host_eq b h0 h1)
  go_enter Try.func77, Try.ntmps77
  go_wp2
  go_ret
  exact ⟨ret_int (by rw [← HE.out]), rfl⟩
theorem around_walk (a b : Int) (ha : 0 ≤ a) (ha1 : a ≤ 4294967295) (h0 : 0 ≤ b) (h1 : b ≤ 32) (w : World) :
    Calls Try.prog 66 #[.int .i64 a, .int .i64 b] w fun e w' => e = .returned (.agg #[.int .i64 (a - a % sz b), .int .i64 b]) ∧ Below w.heap.size w w' := by
  have HE := andNot_sz a b ha ha1
  have hp := sz_pos b
  go_enter Try.func66, Try.ntmps66
  go_wp2_with (go_at_call 77; refine (hostPart_walk _ h0 h1 _).mono ?_; rintro e w' ⟨rfl, rfl⟩)
  exact bodyPost_ret (v := .agg #[.int .i64 (a - a % sz b), .int .i64 b]) (by simp [results, Try.results66, go_sem]) rfl ⟨rfl, (Below.refl _ _).alloc (Nat.le_refl _) _⟩
theorem prefB_eq {a b : Int} (h0 : 0 ≤ b) (h1 : b ≤ 32) (h2 : adrB a = true) : prefB a b = (a == a - a % sz b) := by
  rw [prefB_true h0 h1 h2, Bool.eq_iff_iff]; simp; omega
set_option maxHeartbeats 2000000 in
theorem valid_yes (a b : Int) (w : World) (h0 : 0 ≤ b) (h1 : b ≤ 32) (ha : adrB a = true) :
    Calls Try.prog 64 #[.agg #[.int .i64 a, .int .i64 b]] w fun e w' => e = .returned (.bool (prefB a b)) ∧ Below w.heap.size w w' := by
  have hab := adrB_iff.1 ha
  have HP := hide (prefB_eq h0 h1 ha)
  have heq := eqPref a b (a - a % sz b) b
  go_enter Try.func64, Try.ntmps64
  go_wp2_with fail
  go_region_held3 (fun w' => Below w.heap.size w w' ∧ w.heap.size < w'.heap.size ∧ w'.cell? ⟨w.heap.size, 0, none⟩ = some (.int .i64 a) ∧ w'.cell? ⟨w.heap.size, 1, none⟩ = some (.int .i64 b))
    (first | exact boxS_start w _ _ _ | assumption | exact boxS_below (by assumption) (by assumption))
    (first
      | (go_at_call 65; refine (isAddr_walk _ _).mono ?_; rintro e w' ⟨rfl, rfl⟩)
      | (go_at_call 66; refine (around_walk _ _ hab.1 hab.2 h0 h1 _).mono ?_; rintro e w' ⟨rfl, hbel⟩))
  go_wp2
  go_ret
  refine ⟨ret_bool HP.out.symm, ?_⟩
  rename_i hh
  exact hh.1
set_option maxHeartbeats 1000000 in
theorem valid_neg (a b : Int) (w : World) (h0 : ¬ 0 ≤ b) :
    Calls Try.prog 64 #[.agg #[.int .i64 a, .int .i64 b]] w fun e w' => e = .returned (.bool (prefB a b)) ∧ Below w.heap.size w w' := by
  have HP := hide (prefB_neg (a := a) h0)
  have hd : decide (0 ≤ b) = false := by simpa using h0
  clear h0
  go_enter Try.func64, Try.ntmps64
  go_wp2_with fail
  go_quiet (fail)
  go_wp2
  go_ret
  exact ⟨ret_bool HP.out.symm, below_drewN ((Below.refl _ _).alloc (Nat.le_refl _) _) nq⟩
set_option maxHeartbeats 1000000 in
theorem valid_big (a b : Int) (w : World) (h0 : 0 ≤ b) (h1 : ¬ b ≤ 32) :
    Calls Try.prog 64 #[.agg #[.int .i64 a, .int .i64 b]] w fun e w' => e = .returned (.bool (prefB a b)) ∧ Below w.heap.size w w' := by
  have HP := hide (prefB_big (a := a) h1)
  have hd : decide (b ≤ 32) = false := by simpa using h1
  clear h1
  go_enter Try.func64, Try.ntmps64
  go_wp2_with fail
  go_quiet (fail)
  go_wp2
  go_ret
  exact ⟨ret_bool HP.out.symm, below_drewN ((Below.refl _ _).alloc (Nat.le_refl _) _) nq⟩
set_option maxHeartbeats 1000000 in
theorem valid_adr (a b : Int) (w : World) (h0 : 0 ≤ b) (h1 : b ≤ 32) (ha : adrB a = false) :
    Calls Try.prog 64 #[.agg #[.int .i64 a, .int .i64 b]] w fun e w' => e = .returned (.bool (prefB a b)) ∧ Below w.heap.size w w' := by
  have HP := hide (prefB_adr (b := b) ha)
  go_enter Try.func64, Try.ntmps64
  go_wp2_with fail
  go_quiet ((go_at_call 65; refine Calls.quiet_of_same (isAddr_walk _ _)))
  go_wp2
  go_ret
  exact ⟨ret_bool HP.out.symm, below_drewN ((Below.refl _ _).alloc (Nat.le_refl _) _) nq⟩
theorem valid_walk (a b : Int) (w : World) :
    Calls Try.prog 64 #[.agg #[.int .i64 a, .int .i64 b]] w fun e w' => e = .returned (.bool (prefB a b)) ∧ Below w.heap.size w w' := by
  by_cases h0 : 0 ≤ b
  · by_cases h1 : b ≤ 32
    · by_cases ha : adrB a = true
      · exact valid_yes a b w h0 h1 ha
      · exact valid_adr a b w h0 h1 (by simpa using ha)
    · exact valid_big a b w h0 h1
  · exact valid_neg a b w h0

set_option maxHeartbeats 1000000 in
theorem has_yes (a b x : Int) (w : World) (hp : prefB a b = true) (hx : adrB x = true) :
    Calls Try.prog 44 #[.agg #[.int .i64 a, .int .i64 b], .int .i64 x] w fun e w' => e = .returned (.bool (hasB a b x)) ∧ Below w.heap.size w w' := by
  have hxb := adrB_iff.1 hx
  obtain ⟨h0, h1, ha, hm⟩ := prefB_iff.1 hp
  have HP := hide (hasB_impl hp hx)
  have HP1 := hide hp
  have heq := eqPref (x - x % sz b) b a b
  clear ha hm hp
  go_enter Try.func44, Try.ntmps44
  go_wp2_with fail
  obtain ⟨hbW, hc0, hc1⟩ := box_facts w (.int .i64 a) (.int .i64 b) 25
  generalize w.alloc (.cells #[.int .i64 a, .int .i64 b] 25) = W at *
  have k0 := cell_regrown hc0
  have k1 := cell_regrown hc1
  clear hc0 hc1
  have cP : ∀ d os, Calls Try.prog 64 #[.agg #[.int .i64 a, .int .i64 b]] (Go.Sort.grow (redrawn W d) os) fun e w'' => e = .returned (.bool true) ∧ ∃ p : Regrown, w'' = Go.Sort.grow (redrawn W p.d) p.os := fun d os => Calls.regrown_of (by have h := valid_walk a b (Go.Sort.grow (redrawn W d) os); rw [HP1.out] at h; exact h)
  have cA : ∀ d os, Calls Try.prog 65 #[.int .i64 x] (Go.Sort.grow (redrawn W d) os) fun e w'' => e = .returned (.bool true) ∧ ∃ p : Regrown, w'' = Go.Sort.grow (redrawn W p.d) p.os := fun d os => Calls.regrown_of (by have h := isAddr_walk x (Go.Sort.grow (redrawn W d) os); rw [hx] at h; exact h.mono (fun e w1 hh => ⟨hh.1, hh.2 ▸ Below.refl _ _⟩))
  have cR : ∀ d os, Calls Try.prog 66 #[.int .i64 x, .int .i64 b] (Go.Sort.grow (redrawn W d) os) fun e w'' => e = .returned (.agg #[.int .i64 (x - x % sz b), .int .i64 b]) ∧ ∃ p : Regrown, w'' = Go.Sort.grow (redrawn W p.d) p.os := fun d os => Calls.regrown_of (by exact around_walk x b hxb.1 hxb.2 h0 h1 (Go.Sort.grow (redrawn W d) os))
  refine wp_region_quiet_below (by kernel_rfl) (by kernel_rfl) ?_
  repeat (first | go_big_quiet_step ((first | (go_at_call 64; exact cP _ _) | (go_at_call 65; exact cA _ _) | (go_at_call 66; exact cR _ _))) | quiet_step ((first | (go_at_call 64; exact cP _ _) | (go_at_call 65; exact cA _ _) | (go_at_call 66; exact cR _ _))))
  refine wpQuiet_nil ?_
  intro _ hw'
  obtain ⟨⟨dq, osq⟩, hw''⟩ := hw'
  subst hw''
  go_wp2
  go_ret
  exact ⟨ret_bool HP.out.symm, below_then hbW dq osq⟩
set_option maxHeartbeats 1000000 in
theorem has_pref (a b x : Int) (w : World) (hp : prefB a b = false) :
    Calls Try.prog 44 #[.agg #[.int .i64 a, .int .i64 b], .int .i64 x] w fun e w' => e = .returned (.bool (hasB a b x)) ∧ Below w.heap.size w w' := by
  have HP := hide (hasB_no (x := x) hp)
  have HP1 := hide hp
  clear hp
  go_enter Try.func44, Try.ntmps44
  go_wp2_with fail
  obtain ⟨hbW, hc0, hc1⟩ := box_facts w (.int .i64 a) (.int .i64 b) 25
  generalize w.alloc (.cells #[.int .i64 a, .int .i64 b] 25) = W at *
  have k0 := cell_regrown hc0
  have k1 := cell_regrown hc1
  clear hc0 hc1
  have cP : ∀ d os, Calls Try.prog 64 #[.agg #[.int .i64 a, .int .i64 b]] (Go.Sort.grow (redrawn W d) os) fun e w'' => e = .returned (.bool false) ∧ ∃ p : Regrown, w'' = Go.Sort.grow (redrawn W p.d) p.os := fun d os => Calls.regrown_of (by have h := valid_walk a b (Go.Sort.grow (redrawn W d) os); rw [HP1.out] at h; exact h)
  refine wp_region_quiet_below (by kernel_rfl) (by kernel_rfl) ?_
  repeat (first | go_big_quiet_step ((go_at_call 64; exact cP _ _)) | quiet_step ((go_at_call 64; exact cP _ _)))
  refine wpQuiet_nil ?_
  intro _ hw'
  obtain ⟨⟨dq, osq⟩, hw''⟩ := hw'
  subst hw''
  go_wp2
  go_ret
  exact ⟨ret_bool HP.out.symm, below_then hbW dq osq⟩
set_option maxHeartbeats 1000000 in
theorem has_adr (a b x : Int) (w : World) (hp : prefB a b = true) (hx : adrB x = false) :
    Calls Try.prog 44 #[.agg #[.int .i64 a, .int .i64 b], .int .i64 x] w fun e w' => e = .returned (.bool (hasB a b x)) ∧ Below w.heap.size w w' := by
  have HP := hide (hasB_adr (a := a) (b := b) hx)
  have HP1 := hide hp
  clear hp
  go_enter Try.func44, Try.ntmps44
  go_wp2_with fail
  obtain ⟨hbW, hc0, hc1⟩ := box_facts w (.int .i64 a) (.int .i64 b) 25
  generalize w.alloc (.cells #[.int .i64 a, .int .i64 b] 25) = W at *
  have k0 := cell_regrown hc0
  have k1 := cell_regrown hc1
  clear hc0 hc1
  have cP : ∀ d os, Calls Try.prog 64 #[.agg #[.int .i64 a, .int .i64 b]] (Go.Sort.grow (redrawn W d) os) fun e w'' => e = .returned (.bool true) ∧ ∃ p : Regrown, w'' = Go.Sort.grow (redrawn W p.d) p.os := fun d os => Calls.regrown_of (by have h := valid_walk a b (Go.Sort.grow (redrawn W d) os); rw [HP1.out] at h; exact h)
  have cA : ∀ d os, Calls Try.prog 65 #[.int .i64 x] (Go.Sort.grow (redrawn W d) os) fun e w'' => e = .returned (.bool false) ∧ ∃ p : Regrown, w'' = Go.Sort.grow (redrawn W p.d) p.os := fun d os => Calls.regrown_of (by have h := isAddr_walk x (Go.Sort.grow (redrawn W d) os); rw [hx] at h; exact h.mono (fun e w1 hh => ⟨hh.1, hh.2 ▸ Below.refl _ _⟩))
  refine wp_region_quiet_below (by kernel_rfl) (by kernel_rfl) ?_
  repeat (first | go_big_quiet_step ((first | (go_at_call 64; exact cP _ _) | (go_at_call 65; exact cA _ _))) | quiet_step ((first | (go_at_call 64; exact cP _ _) | (go_at_call 65; exact cA _ _))))
  refine wpQuiet_nil ?_
  intro _ hw'
  obtain ⟨⟨dq, osq⟩, hw''⟩ := hw'
  subst hw''
  go_wp2
  go_ret
  exact ⟨ret_bool HP.out.symm, below_then hbW dq osq⟩
theorem has_walk (a b x : Int) (w : World) :
    Calls Try.prog 44 #[.agg #[.int .i64 a, .int .i64 b], .int .i64 x] w fun e w' => e = .returned (.bool (hasB a b x)) ∧ Below w.heap.size w w' := by
  by_cases hp : prefB a b = true
  · by_cases hx : adrB x = true
    · exact has_yes a b x w hp hx
    · exact has_adr a b x w hp (by simpa using hx)
  · exact has_pref a b x w (by simpa using hp)
end Go.Proofs.Ytmlpninkilcjaaa
