/-
At every input the law FnExactPrefixHas of the landed program answers true, and its arguments read afterwards as before.
No conditions.
-/
import Derived.Test.YtmgjagajcmeikaeRows
import Derived.WalkKit
import Derived.ProofKit
import Derived.OpenShut
import Derived.Test.YtmgjagajcmeikaePref
import Derived.Lib.QuietBelow
import Derived.BigQuiet
import Derived.ShutString
import Derived.ChangeOld
import Derived.Below
import Derived.Lib.SmallJoins
namespace Go.Proofs.Ytmgjagajcmeikae
open Go.ChangeShapes Go.WideShapes Go.ChangeAt Go.RowKit
set_option linter.unusedVariables false
theorem box_facts (w : World) (x y : Value) (t : Nat) : Below w.heap.size w (w.alloc (.cells #[x, y] t)) ∧ (w.alloc (.cells #[x, y] t)).cell? ⟨w.heap.size, 0, none⟩ = some x ∧ (w.alloc (.cells #[x, y] t)).cell? ⟨w.heap.size, 1, none⟩ = some y := by
  refine ⟨(Below.refl _ _).alloc (Nat.le_refl _) _, ?_, ?_⟩
  · exact cell_of_row _ w.heap.size 0 #[x, y] t (0, 0) (heap_alloc_new w _)
  · exact cell_of_row _ w.heap.size 1 #[x, y] t (0, 0) (heap_alloc_new w _)
theorem below_then {w W : World} (h : Below w.heap.size w W) (d : Nat) (os : Array Obj) : Below w.heap.size w (Go.Sort.grow (redrawn W d) os) :=
  h.trans ((below_regrown W d os).mono h.size)

theorem toPrefix_walk (a b : Int) (w : World) :
    Calls Try.prog 7 #[.agg #[.int .i64 a, .int .i64 b]] w fun e w' => e = .returned (.agg #[.int .i64 a, .int .i64 b]) ∧ Below w.heap.size w w' := by
  go_enter Try.func7, Try.ntmps7
  go_wp2
  exact bodyPost_ret (v := .agg #[.int .i64 a, .int .i64 b]) (by simp [results, Try.results7, go_sem]) rfl ⟨rfl, (((Below.refl _ _).alloc (Nat.le_refl _) _).alloc (by simp) _).alloc (by simp; omega) _⟩

theorem hasB_no {a b x : Int} (h : prefB a b = false) : hasB a b x = false := by unfold hasB; simp [h]
theorem hasB_adr {a b x : Int} (h : adrB x = false) : hasB a b x = false := by unfold hasB; simp [h]
theorem hasB_yes {a b x : Int} (h : prefB a b = true) (hx : adrB x = true) : hasB a b x = (x / sz b == a / sz b) := by unfold hasB; simp [h, hx]
theorem hasB_impl {a b x : Int} (h : prefB a b = true) (hx : adrB x = true) : hasB a b x = (x - x % sz b == a) := by
  rw [hasB_yes h hx, Bool.eq_iff_iff, beq_iff_eq, beq_iff_eq]
  exact (same_block (sz_pos b) (prefB_iff.1 h).2.2.2).symm
theorem wrap_div {x s : Int} (h0 : 0 ≤ x) (h1 : x ≤ 4294967295) (hs : 0 < s) : IntKind.i64.wrap (x.tdiv s) = x / s := by
  rw [Int.tdiv_eq_ediv_of_nonneg h0]
  have h2 : 0 ≤ x / s := Int.ediv_nonneg h0 (by omega)
  have h3 : x / s ≤ x := Int.ediv_le_self s h0
  exact wrap_i64' _ h2 (by omega)

set_option maxHeartbeats 2000000 in
theorem specHas_yes (a b x : Int) (w : World) (hp : prefB a b = true) (hx : adrB x = true) :
    Calls Try.prog 6 #[.agg #[.int .i64 a, .int .i64 b], .int .i64 x] w fun e w' => e = .returned (.bool (hasB a b x)) ∧ Below w.heap.size w w' := by
  have hxb := adrB_iff.1 hx
  obtain ⟨h0, h1, ha, hm⟩ := prefB_iff.1 hp
  have hab := adrB_iff.1 ha
  have hsz := sz_pos b
  have hne : sz b ≠ 0 := by omega
  have HP := hide (hasB_yes hp hx)
  have HP1 := hide hp
  clear ha hm hp
  go_enter Try.func6, Try.ntmps6
  go_wp2_with fail
  go_region_held3 (fun w' => Below w.heap.size w w' ∧ w.heap.size < w'.heap.size ∧ w'.cell? ⟨w.heap.size, 0, none⟩ = some (.int .i64 a) ∧ w'.cell? ⟨w.heap.size, 1, none⟩ = some (.int .i64 b))
    (first | exact boxS_start w _ _ _ | assumption | exact boxS_below (by assumption) (by assumption))
    (first
      | (go_at_call 20; refine (specAddrOK_walk _ _).mono ?_; rintro e w' ⟨rfl, rfl⟩)
      | (go_at_call 19; refine (specPrefixOK_walk _ _ _).mono ?_; rw [HP1.out]; rintro e w' ⟨rfl, hbel⟩)
      | (go_at_call 21; refine (size_walk _ h0 h1 _).mono ?_; rintro e w' ⟨rfl, rfl⟩))
  go_wp2
  go_ret
  refine ⟨ret_bool (by rw [HP.out, wrap_div hxb.1 hxb.2 hsz, wrap_div hab.1 hab.2 hsz]), ?_⟩
  rename_i hh
  exact hh.1
set_option maxHeartbeats 1000000 in
theorem specHas_pref (a b x : Int) (w : World) (hp : prefB a b = false) :
    Calls Try.prog 6 #[.agg #[.int .i64 a, .int .i64 b], .int .i64 x] w fun e w' => e = .returned (.bool (hasB a b x)) ∧ Below w.heap.size w w' := by
  have HP := hide (hasB_no (x := x) hp)
  have HP1 := hide hp
  clear hp
  go_enter Try.func6, Try.ntmps6
  go_wp2_with fail
  obtain ⟨hbW, hc0, hc1⟩ := box_facts w (.int .i64 a) (.int .i64 b) 25
  generalize w.alloc (.cells #[.int .i64 a, .int .i64 b] 25) = W at *
  have k0 := cell_regrown hc0
  have k1 := cell_regrown hc1
  clear hc0 hc1
  have cP : ∀ d os, Calls Try.prog 19 #[.agg #[.int .i64 a, .int .i64 b]] (Go.Sort.grow (redrawn W d) os) fun e w'' => e = .returned (.bool false) ∧ ∃ p : Regrown, w'' = Go.Sort.grow (redrawn W p.d) p.os := fun d os => Calls.regrown_of (by have h := specPrefixOK_walk a b (Go.Sort.grow (redrawn W d) os); rw [HP1.out] at h; exact h)
  refine wp_region_quiet_below (by kernel_rfl) (by kernel_rfl) ?_
  repeat (first | go_big_quiet_step ((go_at_call 19; exact cP _ _)) | quiet_step ((go_at_call 19; exact cP _ _)))
  refine wpQuiet_nil ?_
  intro _ hw'
  obtain ⟨⟨dq, osq⟩, hw''⟩ := hw'
  subst hw''
  go_wp2
  go_ret
  exact ⟨ret_bool HP.out.symm, below_then hbW dq osq⟩
set_option maxHeartbeats 1000000 in
theorem specHas_adr (a b x : Int) (w : World) (hp : prefB a b = true) (hx : adrB x = false) :
    Calls Try.prog 6 #[.agg #[.int .i64 a, .int .i64 b], .int .i64 x] w fun e w' => e = .returned (.bool (hasB a b x)) ∧ Below w.heap.size w w' := by
  have HP := hide (hasB_adr (a := a) (b := b) hx)
  have HP1 := hide hp
  clear hp
  go_enter Try.func6, Try.ntmps6
  go_wp2_with fail
  obtain ⟨hbW, hc0, hc1⟩ := box_facts w (.int .i64 a) (.int .i64 b) 25
  generalize w.alloc (.cells #[.int .i64 a, .int .i64 b] 25) = W at *
  have k0 := cell_regrown hc0
  have k1 := cell_regrown hc1
  clear hc0 hc1
  have cP : ∀ d os, Calls Try.prog 19 #[.agg #[.int .i64 a, .int .i64 b]] (Go.Sort.grow (redrawn W d) os) fun e w'' => e = .returned (.bool true) ∧ ∃ p : Regrown, w'' = Go.Sort.grow (redrawn W p.d) p.os := fun d os => Calls.regrown_of (by have h := specPrefixOK_walk a b (Go.Sort.grow (redrawn W d) os); rw [HP1.out] at h; exact h)
  have cA : ∀ d os, Calls Try.prog 20 #[.int .i64 x] (Go.Sort.grow (redrawn W d) os) fun e w'' => e = .returned (.bool false) ∧ ∃ p : Regrown, w'' = Go.Sort.grow (redrawn W p.d) p.os := fun d os => Calls.regrown_of (by have h := specAddrOK_walk x (Go.Sort.grow (redrawn W d) os); rw [hx] at h; exact h.mono (fun e w1 hh => ⟨hh.1, hh.2 ▸ Below.refl _ _⟩))
  refine wp_region_quiet_below (by kernel_rfl) (by kernel_rfl) ?_
  repeat (first | go_big_quiet_step ((first | (go_at_call 19; exact cP _ _) | (go_at_call 20; exact cA _ _))) | quiet_step ((first | (go_at_call 19; exact cP _ _) | (go_at_call 20; exact cA _ _))))
  refine wpQuiet_nil ?_
  intro _ hw'
  obtain ⟨⟨dq, osq⟩, hw''⟩ := hw'
  subst hw''
  go_wp2
  go_ret
  exact ⟨ret_bool HP.out.symm, below_then hbW dq osq⟩
theorem specHas_walk (a b x : Int) (w : World) :
    Calls Try.prog 6 #[.agg #[.int .i64 a, .int .i64 b], .int .i64 x] w fun e w' => e = .returned (.bool (hasB a b x)) ∧ Below w.heap.size w w' := by
  by_cases hp : prefB a b = true
  · by_cases hx : adrB x = true
    · exact specHas_yes a b x w hp hx
    · exact specHas_adr a b x w hp (by simpa using hx)
  · exact specHas_pref a b x w (by simpa using hp)

set_option maxHeartbeats 1000000 in
theorem has_yes (a b x : Int) (w : World) (hp : prefB a b = true) (hx : adrB x = true) :
    Calls Try.prog 8 #[.agg #[.int .i64 a, .int .i64 b], .int .i64 x] w fun e w' => e = .returned (.bool (hasB a b x)) ∧ Below w.heap.size w w' := by
  have hxb := adrB_iff.1 hx
  obtain ⟨h0, h1, ha, hm⟩ := prefB_iff.1 hp
  have HP := hide (hasB_impl hp hx)
  have HP1 := hide hp
  have heq := eqPref (x - x % sz b) b a b
  clear ha hm hp
  go_enter Try.func8, Try.ntmps8
  go_wp2_with fail
  obtain ⟨hbW, hc0, hc1⟩ := box_facts w (.int .i64 a) (.int .i64 b) 25
  generalize w.alloc (.cells #[.int .i64 a, .int .i64 b] 25) = W at *
  have k0 := cell_regrown hc0
  have k1 := cell_regrown hc1
  clear hc0 hc1
  have cP : ∀ d os, Calls Try.prog 22 #[.agg #[.int .i64 a, .int .i64 b]] (Go.Sort.grow (redrawn W d) os) fun e w'' => e = .returned (.bool true) ∧ ∃ p : Regrown, w'' = Go.Sort.grow (redrawn W p.d) p.os := fun d os => Calls.regrown_of (by have h := valid_walk a b (Go.Sort.grow (redrawn W d) os); rw [HP1.out] at h; exact h)
  have cA : ∀ d os, Calls Try.prog 23 #[.int .i64 x] (Go.Sort.grow (redrawn W d) os) fun e w'' => e = .returned (.bool true) ∧ ∃ p : Regrown, w'' = Go.Sort.grow (redrawn W p.d) p.os := fun d os => Calls.regrown_of (by have h := isAddr_walk x (Go.Sort.grow (redrawn W d) os); rw [hx] at h; exact h.mono (fun e w1 hh => ⟨hh.1, hh.2 ▸ Below.refl _ _⟩))
  have cR : ∀ d os, Calls Try.prog 24 #[.int .i64 x, .int .i64 b] (Go.Sort.grow (redrawn W d) os) fun e w'' => e = .returned (.agg #[.int .i64 (x - x % sz b), .int .i64 b]) ∧ ∃ p : Regrown, w'' = Go.Sort.grow (redrawn W p.d) p.os := fun d os => Calls.regrown_of (by exact around_walk x b hxb.1 hxb.2 h0 h1 (Go.Sort.grow (redrawn W d) os))
  refine wp_region_quiet_below (by kernel_rfl) (by kernel_rfl) ?_
  repeat (first | go_big_quiet_step ((first | (go_at_call 22; exact cP _ _) | (go_at_call 23; exact cA _ _) | (go_at_call 24; exact cR _ _))) | quiet_step ((first | (go_at_call 22; exact cP _ _) | (go_at_call 23; exact cA _ _) | (go_at_call 24; exact cR _ _))))
  refine wpQuiet_nil ?_
  intro _ hw'
  obtain ⟨⟨dq, osq⟩, hw''⟩ := hw'
  subst hw''
  go_wp2
  go_ret
  exact ⟨ret_bool HP.out.symm, below_then hbW dq osq⟩
set_option maxHeartbeats 1000000 in
theorem has_pref (a b x : Int) (w : World) (hp : prefB a b = false) :
    Calls Try.prog 8 #[.agg #[.int .i64 a, .int .i64 b], .int .i64 x] w fun e w' => e = .returned (.bool (hasB a b x)) ∧ Below w.heap.size w w' := by
  have HP := hide (hasB_no (x := x) hp)
  have HP1 := hide hp
  clear hp
  go_enter Try.func8, Try.ntmps8
  go_wp2_with fail
  obtain ⟨hbW, hc0, hc1⟩ := box_facts w (.int .i64 a) (.int .i64 b) 25
  generalize w.alloc (.cells #[.int .i64 a, .int .i64 b] 25) = W at *
  have k0 := cell_regrown hc0
  have k1 := cell_regrown hc1
  clear hc0 hc1
  have cP : ∀ d os, Calls Try.prog 22 #[.agg #[.int .i64 a, .int .i64 b]] (Go.Sort.grow (redrawn W d) os) fun e w'' => e = .returned (.bool false) ∧ ∃ p : Regrown, w'' = Go.Sort.grow (redrawn W p.d) p.os := fun d os => Calls.regrown_of (by have h := valid_walk a b (Go.Sort.grow (redrawn W d) os); rw [HP1.out] at h; exact h)
  refine wp_region_quiet_below (by kernel_rfl) (by kernel_rfl) ?_
  repeat (first | go_big_quiet_step ((go_at_call 22; exact cP _ _)) | quiet_step ((go_at_call 22; exact cP _ _)))
  refine wpQuiet_nil ?_
  intro _ hw'
  obtain ⟨⟨dq, osq⟩, hw''⟩ := hw'
  subst hw''
  go_wp2
  go_ret
  exact ⟨ret_bool HP.out.symm, below_then hbW dq osq⟩
set_option maxHeartbeats 1000000 in
theorem has_adr (a b x : Int) (w : World) (hp : prefB a b = true) (hx : adrB x = false) :
    Calls Try.prog 8 #[.agg #[.int .i64 a, .int .i64 b], .int .i64 x] w fun e w' => e = .returned (.bool (hasB a b x)) ∧ Below w.heap.size w w' := by
  have HP := hide (hasB_adr (a := a) (b := b) hx)
  have HP1 := hide hp
  clear hp
  go_enter Try.func8, Try.ntmps8
  go_wp2_with fail
  obtain ⟨hbW, hc0, hc1⟩ := box_facts w (.int .i64 a) (.int .i64 b) 25
  generalize w.alloc (.cells #[.int .i64 a, .int .i64 b] 25) = W at *
  have k0 := cell_regrown hc0
  have k1 := cell_regrown hc1
  clear hc0 hc1
  have cP : ∀ d os, Calls Try.prog 22 #[.agg #[.int .i64 a, .int .i64 b]] (Go.Sort.grow (redrawn W d) os) fun e w'' => e = .returned (.bool true) ∧ ∃ p : Regrown, w'' = Go.Sort.grow (redrawn W p.d) p.os := fun d os => Calls.regrown_of (by have h := valid_walk a b (Go.Sort.grow (redrawn W d) os); rw [HP1.out] at h; exact h)
  have cA : ∀ d os, Calls Try.prog 23 #[.int .i64 x] (Go.Sort.grow (redrawn W d) os) fun e w'' => e = .returned (.bool false) ∧ ∃ p : Regrown, w'' = Go.Sort.grow (redrawn W p.d) p.os := fun d os => Calls.regrown_of (by have h := isAddr_walk x (Go.Sort.grow (redrawn W d) os); rw [hx] at h; exact h.mono (fun e w1 hh => ⟨hh.1, hh.2 ▸ Below.refl _ _⟩))
  refine wp_region_quiet_below (by kernel_rfl) (by kernel_rfl) ?_
  repeat (first | go_big_quiet_step ((first | (go_at_call 22; exact cP _ _) | (go_at_call 23; exact cA _ _))) | quiet_step ((first | (go_at_call 22; exact cP _ _) | (go_at_call 23; exact cA _ _))))
  refine wpQuiet_nil ?_
  intro _ hw'
  obtain ⟨⟨dq, osq⟩, hw''⟩ := hw'
  subst hw''
  go_wp2
  go_ret
  exact ⟨ret_bool HP.out.symm, below_then hbW dq osq⟩
theorem has_walk (a b x : Int) (w : World) :
    Calls Try.prog 8 #[.agg #[.int .i64 a, .int .i64 b], .int .i64 x] w fun e w' => e = .returned (.bool (hasB a b x)) ∧ Below w.heap.size w w' := by
  by_cases hp : prefB a b = true
  · by_cases hx : adrB x = true
    · exact has_yes a b x w hp hx
    · exact has_adr a b x w hp (by simpa using hx)
  · exact has_pref a b x w (by simpa using hp)

theorem walkPrefixHas (a b x : Int) (w : World) (wa : (Lit.int .i64 a).wf = true) (wb : (Lit.int .i64 b).wf = true) (wx : (Lit.int .i64 x).wf = true) :
    Calls Try.prog 3 #[.agg #[.int .i64 a, .int .i64 b], .int .i64 x] w fun e w' => e = .returned (.bool true) ∧ Below w.heap.size w w' := by
  go_enter Try.func3, Try.ntmps3
  go_wp2_with fail
  obtain ⟨hbW, hc0, hc1⟩ := box_facts w (.int .i64 a) (.int .i64 b) 23
  have hsW : w.heap.size < (w.alloc (.cells #[.int .i64 a, .int .i64 b] 23)).heap.size := by rw [World.size_alloc]; omega
  generalize w.alloc (.cells #[.int .i64 a, .int .i64 b] 23) = W at *
  refine (toPrefix_walk a b _).mono ?_
  rintro e w1 ⟨rfl, hb1⟩
  go_wp2_with fail
  refine (specHas_walk a b x _).mono ?_
  rintro e w2 ⟨rfl, hb2⟩
  have g0 : w2.cell? ⟨w.heap.size, 0, none⟩ = some (.int .i64 a) := by
    rw [hb2.cell (p := ⟨w.heap.size, 0, none⟩) (Nat.lt_of_lt_of_le hsW hb1.size), hb1.cell (p := ⟨w.heap.size, 0, none⟩) hsW]; exact hc0
  have g1 : w2.cell? ⟨w.heap.size, 1, none⟩ = some (.int .i64 b) := by
    rw [hb2.cell (p := ⟨w.heap.size, 1, none⟩) (Nat.lt_of_lt_of_le hsW hb1.size), hb1.cell (p := ⟨w.heap.size, 1, none⟩) hsW]; exact hc1
  clear hc0 hc1
  go_wp2_with fail
  refine (toPrefix_walk a b _).mono ?_
  rintro e w3 ⟨rfl, hb3⟩
  go_wp2_with fail
  refine (has_walk a b x _).mono ?_
  rintro e w4 ⟨rfl, hb4⟩
  go_wp2
  go_ret
  have s1 := hb1.size
  have s2 := hb2.size
  have s3 := hb3.size
  have sW := hbW.size
  exact ⟨rfl, (((hbW.trans (hb1.mono (by omega))).trans (hb2.mono (by omega))).trans (hb3.mono (by omega))).trans (hb4.mono (by omega))⟩

theorem own : ownKnob Try.prog.godebug = none := by kernel_rfl
theorem laidOut : laidOutB Try.prog = true := by kernel_rfl
set_option maxRecDepth 100000 in
theorem fnExactPrefixHas_lifted (os : Os) (started : os.Started) (H : Type) (enc : TypeId × Value → H) :
    ReturnsInHanded {} Try.checked os 3 .any (Rows.fnExactPrefixHasSpec.pre6 enc Try.prog Try.f3 Rows.fnExactPrefixHasRow.domain false) (Rows.fnExactPrefixHasSpec.post enc Try.prog Try.f3 false true false false) := by
  refine returnsInHanded_of_change (C := Try.checked) own started (by kernel_rfl) Try.func3
    (ChangeSpec.witness6 (enc := enc) (C := Try.checked) false ⟨#[], #[.agg #[.int .i64 0, .int .i64 0], .int .i64 0], []⟩ 8 (by kernel_rfl) (by kernel_rfl) (by kernel_rfl) (by kernel_rfl)) ?_
  intro W base args ds gs before hval0 hW hcnd _
  have hval : ∀ (j : Nat) t v, Try.f3.params[j]? = some t → args[j]? = some v → Value.okWide Try.prog W .any base t v := hval0
  have hW' := hW
  obtain ⟨p, q, hA0, hV, rfl, hfz, hnd⟩ := hW
  have hA : DataW.TrodAll enc Try.prog W 0 (fun _ => true) true Try.f3.params.toList args.toList ds p := hA0
  rw [Try.params3] at hA hval
  obtain ⟨v0, vs0, d0, ds0, p0, q0, hargs, rfl, rfl, h0, r0⟩ := trodAll_cons hA
  obtain ⟨v1, vs1, d1, ds1, p1, q1, rfl, rfl, rfl, h1, r1⟩ := trodAll_cons r0
  obtain ⟨rfl, rfl, rfl⟩ := trodAll_nil r1
  obtain rfl : args = #[v0, v1] := by cases args; simp_all
  obtain ⟨rfl, rfl⟩ := trodVars_none hV
  have k0 := h0
  have lt0 : ∀ x ∈ p0, x.block < W.heap.size := by obtain ⟨m, hm⟩ := k0; exact DataW.trod_lt m _ _ _ hm
  obtain ⟨c00, c01, y00, y01, m0, rfl, rfl, rfl, hy00, hy01⟩ := Go.Joins.open_agg2 Try.underlying23 (by kernel_rfl) (by kernel_rfl) (hval 0 23 v0 rfl rfl) h0
  obtain ⟨a0, e00, rfl, wa0⟩ := DataW.trod_int Try.underlying2 hy00
  obtain ⟨b0, e01, rfl, wb0⟩ := DataW.trod_int Try.underlying2 hy01
  simp at e00 e01
  subst e00 e01
  obtain ⟨a1, rfl, rfl, rfl, w1⟩ := open_int Try.underlying2 (hval 1 2 v1 rfl rfl) h1
  clear hA0 hval0
  refine (walkPrefixHas a0 b0 a1 W wa0 wb0 w1).mono fun e W' ⟨he, bel⟩ => ?_
  subst he
  exact ⟨_, rfl, _, _, _, [], _, [], hW', trodAll_mk1 (shut_bool Try.underlying4 _), (trodAll_cons_mk (Below.trod laidOut (by kernel_rfl) (of_decide_eq_true (by kernel_rfl)) k0 bel lt0) (trodAll_cons_mk (shut_int Try.underlying2 w1) trodAll_mk0)), rfl, bel.frame _, fun h => by cases h⟩
theorem fnExactPrefixHas_holds : Rows.FnExactPrefixHasSaid :=
  OpenClaim.holds_of_wide 3 Try.f3 rfl rfl rfl rfl rfl rfl rfl ⟨rfl, rfl, rfl, rfl, rfl⟩ rfl rfl rfl rfl rfl (by kernel_rfl) Try.func3 (by kernel_rfl)
    (of_decide_eq_true (by kernel_rfl)) (by unfold Func.isWrapper; first | (rw [if_pos (by decide +kernel)]; kernel_rfl) | (rw [if_neg (by decide +kernel)]; exact ⟨rfl, rfl⟩))
    (fun os started H enc _ => fnExactPrefixHas_lifted os started H enc)
end Go.Proofs.Ytmgjagajcmeikae
