/-
At every input the law FnExactBroadcast of the landed program answers true, and its arguments read afterwards as before.
No conditions.
-/
import Derived.Test.YtmgjagajcmeikaeRows
import Derived.WalkKit
import Derived.ProofKit
import Derived.OpenShut
import Derived.Test.YtmgjagajcmeikaePref
import Derived.Lib.QuietBelow
import Derived.BigQuiet
import Derived.ShutString
import Derived.ChangeOld
import Derived.Below
import Derived.Lib.SmallJoins
namespace Go.Proofs.Ytmgjagajcmeikae
open Go.ChangeShapes Go.WideShapes Go.ChangeAt Go.RowKit
set_option linter.unusedVariables false
theorem box_facts (w : World) (x y : Value) (t : Nat) : Below w.heap.size w (w.alloc (.cells #[x, y] t)) ∧ (w.alloc (.cells #[x, y] t)).cell? ⟨w.heap.size, 0, none⟩ = some x ∧ (w.alloc (.cells #[x, y] t)).cell? ⟨w.heap.size, 1, none⟩ = some y := by
  refine ⟨(Below.refl _ _).alloc (Nat.le_refl _) _, ?_, ?_⟩
  · exact cell_of_row _ w.heap.size 0 #[x, y] t (0, 0) (heap_alloc_new w _)
  · exact cell_of_row _ w.heap.size 1 #[x, y] t (0, 0) (heap_alloc_new w _)
theorem below_then {w W : World} (h : Below w.heap.size w W) (d : Nat) (os : Array Obj) : Below w.heap.size w (Go.Sort.grow (redrawn W d) os) :=
  h.trans ((below_regrown W d os).mono h.size)

theorem toPrefix_walk (a b : Int) (w : World) :
    Calls Try.prog 7 #[.agg #[.int .i64 a, .int .i64 b]] w fun e w' => e = .returned (.agg #[.int .i64 a, .int .i64 b]) ∧ Below w.heap.size w w' := by
  go_enter Try.func7, Try.ntmps7
  go_wp2
  exact bodyPost_ret (v := .agg #[.int .i64 a, .int .i64 b]) (by simp [results, Try.results7, go_sem]) rfl ⟨rfl, (((Below.refl _ _).alloc (Nat.le_refl _) _).alloc (by simp) _).alloc (by simp; omega) _⟩

/-- The last address of a prefix; -1 if it is not valid. -/
def lastOf (a b : Int) : Int := if prefB a b = true then a + sz b - 1 else -1
theorem or_low (x m : Nat) (hx : x < 2 ^ 62) (hm : m ≤ 32) (h : x % 2 ^ m = 0) : bits .or .i64 (x : Int) ((2 ^ m - 1 : Nat) : Int) = ((x + (2 ^ m - 1) : Nat) : Int) := by
  have hp : 2 ^ m ≤ 2 ^ 32 := Nat.pow_le_pow_right (by decide) hm
  have hpos : 0 < 2 ^ m := Nat.two_pow_pos m
  have hlt : (2 ^ m - 1 : Nat) < 2 ^ 62 := by omega
  have hlt' : (((2 ^ m - 1 : Nat) : Nat) : Int) < 2 ^ 62 := by exact_mod_cast hlt
  have hj := bits_join .i64 62 (by decide) (fun n h0 h1 => wrap_i64' n h0 (by have : n < 2 ^ 62 := h1; omega)) m (x : Int) ((2 ^ m - 1 : Nat) : Int) (Int.natCast_nonneg _) (by exact_mod_cast h) (by exact_mod_cast hx) (Int.natCast_nonneg _) (by rw [Int.natCast_sub hpos]; simp; omega) hlt'
  rw [hj]; simp
theorem or_sz (a b : Int) (h0 : 0 ≤ a) (h1 : a ≤ 4294967295) (hm : a % sz b = 0) : bits .or .i64 a (sz b - 1) = a + sz b - 1 := by
  obtain ⟨n, rfl⟩ := Int.eq_ofNat_of_zero_le h0
  have hpos : 0 < 2 ^ (32 - b.toNat) := Nat.two_pow_pos _
  have e : sz b - 1 = ((2 ^ (32 - b.toNat) - 1 : Nat) : Int) := by
    unfold sz; rw [Int.natCast_sub hpos]; simp
  have hm' : n % 2 ^ (32 - b.toNat) = 0 := by
    unfold sz at hm; exact_mod_cast hm
  rw [e, or_low n (32 - b.toNat) (by omega) (by omega) hm', Int.natCast_add, ← e]
  omega
theorem lastOf_yes {a b : Int} (h : prefB a b = true) : lastOf a b = a + sz b - 1 := by unfold lastOf; rw [if_pos h]
theorem lastOf_no {a b : Int} (h : prefB a b = false) : lastOf a b = -1 := by unfold lastOf; rw [if_neg (by simp [h])]

set_option maxHeartbeats 1000000 in
theorem specLast_no (a b : Int) (w : World) (hp : prefB a b = false) :
    Calls Try.prog 9 #[.agg #[.int .i64 a, .int .i64 b]] w fun e w' => e = .returned (.int .i64 (lastOf a b)) ∧ Below w.heap.size w w' := by
  have HP := hide (lastOf_no hp)
  go_enter Try.func9, Try.ntmps9
  go_wp2_with fail
  obtain ⟨hbW, hc0, hc1⟩ := box_facts w (.int .i64 a) (.int .i64 b) 25
  generalize w.alloc (.cells #[.int .i64 a, .int .i64 b] 25) = W at *
  refine (specPrefixOK_walk a b _).mono ?_
  rw [hp]
  rintro e w1 ⟨rfl, hb1⟩
  go_wp2
  go_ret
  exact ⟨ret_int HP.out.symm, hbW.trans (hb1.mono hbW.size)⟩
set_option maxHeartbeats 1000000 in
theorem specLast_yes (a b : Int) (w : World) (hp : prefB a b = true) :
    Calls Try.prog 9 #[.agg #[.int .i64 a, .int .i64 b]] w fun e w' => e = .returned (.int .i64 (lastOf a b)) ∧ Below w.heap.size w w' := by
  have HP := hide (lastOf_yes hp)
  obtain ⟨h0, h1, ha, hm⟩ := prefB_iff.1 hp
  have hab := adrB_iff.1 ha
  have hsz := sz_pos b
  have hsl := sz_le b
  clear ha hm
  go_enter Try.func9, Try.ntmps9
  go_wp2_with fail
  obtain ⟨hbW, hc0, hc1⟩ := box_facts w (.int .i64 a) (.int .i64 b) 25
  have hsW : w.heap.size < (w.alloc (.cells #[.int .i64 a, .int .i64 b] 25)).heap.size := by rw [World.size_alloc]; omega
  generalize w.alloc (.cells #[.int .i64 a, .int .i64 b] 25) = W at *
  refine (specPrefixOK_walk a b _).mono ?_
  rw [hp]
  rintro e w1 ⟨rfl, hb1⟩
  have g0 : w1.cell? ⟨w.heap.size, 0, none⟩ = some (.int .i64 a) := by rw [hb1.cell (p := ⟨w.heap.size, 0, none⟩) hsW]; exact hc0
  have g1 : w1.cell? ⟨w.heap.size, 1, none⟩ = some (.int .i64 b) := by rw [hb1.cell (p := ⟨w.heap.size, 1, none⟩) hsW]; exact hc1
  clear hc0 hc1 hp
  go_wp2_with fail
  go_quiet ((go_at_call 21; refine Calls.quiet_of_same (size_walk _ h0 h1 _)))
  go_wp2
  go_ret
  exact ⟨ret_int (by rw [HP.out]), below_drewN (hbW.trans (hb1.mono hbW.size)) nq⟩
theorem specLast_walk (a b : Int) (w : World) :
    Calls Try.prog 9 #[.agg #[.int .i64 a, .int .i64 b]] w fun e w' => e = .returned (.int .i64 (lastOf a b)) ∧ Below w.heap.size w w' := by
  by_cases hp : prefB a b = true
  · exact specLast_yes a b w hp
  · exact specLast_no a b w (by simpa using hp)

set_option maxHeartbeats 1000000 in
theorem last_no (a b : Int) (w : World) (hp : prefB a b = false) :
    Calls Try.prog 10 #[.agg #[.int .i64 a, .int .i64 b]] w fun e w' => e = .returned (.int .i64 (lastOf a b)) ∧ Below w.heap.size w w' := by
  have HP := hide (lastOf_no hp)
  go_enter Try.func10, Try.ntmps10
  go_wp2_with fail
  obtain ⟨hbW, hc0, hc1⟩ := box_facts w (.int .i64 a) (.int .i64 b) 25
  generalize w.alloc (.cells #[.int .i64 a, .int .i64 b] 25) = W at *
  refine (valid_walk a b _).mono ?_
  rw [hp]
  rintro e w1 ⟨rfl, hb1⟩
  go_wp2
  go_ret
  exact ⟨ret_int HP.out.symm, hbW.trans (hb1.mono hbW.size)⟩
set_option maxHeartbeats 1000000 in
theorem last_yes (a b : Int) (w : World) (hp : prefB a b = true) :
    Calls Try.prog 10 #[.agg #[.int .i64 a, .int .i64 b]] w fun e w' => e = .returned (.int .i64 (lastOf a b)) ∧ Below w.heap.size w w' := by
  have HP := hide (lastOf_yes hp)
  obtain ⟨h0, h1, ha, hm⟩ := prefB_iff.1 hp
  have hab := adrB_iff.1 ha
  have hsz := sz_pos b
  have hsl := sz_le b
  have hor := or_sz a b hab.1 hab.2 hm
  clear ha hm
  go_enter Try.func10, Try.ntmps10
  go_wp2_with fail
  obtain ⟨hbW, hc0, hc1⟩ := box_facts w (.int .i64 a) (.int .i64 b) 25
  have hsW : w.heap.size < (w.alloc (.cells #[.int .i64 a, .int .i64 b] 25)).heap.size := by rw [World.size_alloc]; omega
  generalize w.alloc (.cells #[.int .i64 a, .int .i64 b] 25) = W at *
  refine (valid_walk a b _).mono ?_
  rw [hp]
  rintro e w1 ⟨rfl, hb1⟩
  have g0 : w1.cell? ⟨w.heap.size, 0, none⟩ = some (.int .i64 a) := by rw [hb1.cell (p := ⟨w.heap.size, 0, none⟩) hsW]; exact hc0
  have g1 : w1.cell? ⟨w.heap.size, 1, none⟩ = some (.int .i64 b) := by rw [hb1.cell (p := ⟨w.heap.size, 1, none⟩) hsW]; exact hc1
  clear hc0 hc1 hp
  go_wp2_with fail
  go_quiet ((go_at_call 25; refine Calls.quiet_of_same (hostPart_walk _ h0 h1 _)))
  go_wp2
  go_ret
  exact ⟨ret_int (by rw [HP.out]), below_drewN (hbW.trans (hb1.mono hbW.size)) nq⟩
theorem last_walk (a b : Int) (w : World) :
    Calls Try.prog 10 #[.agg #[.int .i64 a, .int .i64 b]] w fun e w' => e = .returned (.int .i64 (lastOf a b)) ∧ Below w.heap.size w w' := by
  by_cases hp : prefB a b = true
  · exact last_yes a b w hp
  · exact last_no a b w (by simpa using hp)

theorem walkBroadcast (a b : Int) (w : World) (wa : (Lit.int .i64 a).wf = true) (wb : (Lit.int .i64 b).wf = true) :
    Calls Try.prog 4 #[.agg #[.int .i64 a, .int .i64 b]] w fun e w' => e = .returned (.bool true) ∧ Below w.heap.size w w' := by
  go_enter Try.func4, Try.ntmps4
  go_wp2_with fail
  obtain ⟨hbW, hc0, hc1⟩ := box_facts w (.int .i64 a) (.int .i64 b) 23
  have hsW : w.heap.size < (w.alloc (.cells #[.int .i64 a, .int .i64 b] 23)).heap.size := by rw [World.size_alloc]; omega
  generalize w.alloc (.cells #[.int .i64 a, .int .i64 b] 23) = W at *
  refine (toPrefix_walk a b _).mono ?_
  rintro e w1 ⟨rfl, hb1⟩
  go_wp2_with fail
  refine (specLast_walk a b _).mono ?_
  rintro e w2 ⟨rfl, hb2⟩
  have g0 : w2.cell? ⟨w.heap.size, 0, none⟩ = some (.int .i64 a) := by
    rw [hb2.cell (p := ⟨w.heap.size, 0, none⟩) (Nat.lt_of_lt_of_le hsW hb1.size), hb1.cell (p := ⟨w.heap.size, 0, none⟩) hsW]; exact hc0
  have g1 : w2.cell? ⟨w.heap.size, 1, none⟩ = some (.int .i64 b) := by
    rw [hb2.cell (p := ⟨w.heap.size, 1, none⟩) (Nat.lt_of_lt_of_le hsW hb1.size), hb1.cell (p := ⟨w.heap.size, 1, none⟩) hsW]; exact hc1
  clear hc0 hc1
  go_wp2_with fail
  refine (toPrefix_walk a b _).mono ?_
  rintro e w3 ⟨rfl, hb3⟩
  go_wp2_with fail
  refine (last_walk a b _).mono ?_
  rintro e w4 ⟨rfl, hb4⟩
  go_wp2
  go_ret
  have s1 := hb1.size
  have s2 := hb2.size
  have s3 := hb3.size
  have sW := hbW.size
  exact ⟨rfl, (((hbW.trans (hb1.mono (by omega))).trans (hb2.mono (by omega))).trans (hb3.mono (by omega))).trans (hb4.mono (by omega))⟩

theorem own : ownKnob Try.prog.godebug = none := by kernel_rfl
theorem laidOut : laidOutB Try.prog = true := by kernel_rfl
set_option maxRecDepth 100000 in
theorem fnExactBroadcast_lifted (os : Os) (started : os.Started) (H : Type) (enc : TypeId × Value → H) :
    ReturnsInHanded {} Try.checked os 4 .any (Rows.fnExactBroadcastSpec.pre6 enc Try.prog Try.f4 Rows.fnExactBroadcastRow.domain false) (Rows.fnExactBroadcastSpec.post enc Try.prog Try.f4 false true false false) := by
  refine returnsInHanded_of_change (C := Try.checked) own started (by kernel_rfl) Try.func4
    (ChangeSpec.witness6 (enc := enc) (C := Try.checked) false ⟨#[], #[.agg #[.int .i64 0, .int .i64 0]], []⟩ 8 (by kernel_rfl) (by kernel_rfl) (by kernel_rfl) (by kernel_rfl)) ?_
  intro W base args ds gs before hval0 hW hcnd _
  have hval : ∀ (j : Nat) t v, Try.f4.params[j]? = some t → args[j]? = some v → Value.okWide Try.prog W .any base t v := hval0
  have hW' := hW
  obtain ⟨p, q, hA0, hV, rfl, hfz, hnd⟩ := hW
  have hA : DataW.TrodAll enc Try.prog W 0 (fun _ => true) true Try.f4.params.toList args.toList ds p := hA0
  rw [Try.params4] at hA hval
  obtain ⟨v0, vs0, d0, ds0, p0, q0, hargs, rfl, rfl, h0, r0⟩ := trodAll_cons hA
  obtain ⟨rfl, rfl, rfl⟩ := trodAll_nil r0
  obtain rfl : args = #[v0] := by cases args; simp_all
  obtain ⟨rfl, rfl⟩ := trodVars_none hV
  have k0 := h0
  have lt0 : ∀ x ∈ p0, x.block < W.heap.size := by obtain ⟨m, hm⟩ := k0; exact DataW.trod_lt m _ _ _ hm
  obtain ⟨c00, c01, y00, y01, m0, rfl, rfl, rfl, hy00, hy01⟩ := Go.Joins.open_agg2 Try.underlying23 (by kernel_rfl) (by kernel_rfl) (hval 0 23 v0 rfl rfl) h0
  obtain ⟨a0, e00, rfl, wa0⟩ := DataW.trod_int Try.underlying2 hy00
  obtain ⟨b0, e01, rfl, wb0⟩ := DataW.trod_int Try.underlying2 hy01
  simp at e00 e01
  subst e00 e01
  clear hA0 hval0
  refine (walkBroadcast a0 b0 W wa0 wb0).mono fun e W' ⟨he, bel⟩ => ?_
  subst he
  exact ⟨_, rfl, _, _, _, [], _, [], hW', trodAll_mk1 (shut_bool Try.underlying4 _), (trodAll_cons_mk (Below.trod laidOut (by kernel_rfl) (of_decide_eq_true (by kernel_rfl)) k0 bel lt0) trodAll_mk0), rfl, bel.frame _, fun h => by cases h⟩
theorem fnExactBroadcast_holds : Rows.FnExactBroadcastSaid :=
  OpenClaim.holds_of_wide 4 Try.f4 rfl rfl rfl rfl rfl rfl rfl ⟨rfl, rfl, rfl, rfl, rfl⟩ rfl rfl rfl rfl rfl (by kernel_rfl) Try.func4 (by kernel_rfl)
    (of_decide_eq_true (by kernel_rfl)) (by unfold Func.isWrapper; first | (rw [if_pos (by decide +kernel)]; kernel_rfl) | (rw [if_neg (by decide +kernel)]; exact ⟨rfl, rfl⟩))
    (fun os started H enc _ => fnExactBroadcast_lifted os started H enc)
end Go.Proofs.Ytmgjagajcmeikae
