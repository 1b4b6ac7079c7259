/-
At every input the law FnExactChecksumPatch of the landed program answers true, and its arguments read afterwards as before.
No conditions.
-/
import Derived.Test.YtmgjagajcmeikaaRows
import Derived.WalkKit
import Derived.ProofKit
import Derived.OpenShut
namespace Go.Proofs.Ytmgjagajcmeikaa
open Go.ChangeShapes Go.WideShapes Go.ChangeAt Go.RowKit
set_option linter.unusedVariables false
theorem i64_bd {a : Int} (h : (Lit.int .i64 a).wf = true) : -9223372036854775808 ≤ a ∧ a ≤ 9223372036854775807 := by
  simpa [Lit.wf, IntKind.min, IntKind.max, IntKind.signed, IntKind.bits] using h
theorem ret_int {k : IntKind} {a b : Int} (h : a = b) : Ending.returned (.int k a) = .returned (.int k b) := by rw [h]
theorem ret_bool {a b : Bool} (h : a = b) : Ending.returned (.bool a) = .returned (.bool b) := by rw [h]
theorem hide {P : Prop} (h : P) : Hid P := h

/-- 'x & (2^i - 1)' is x modulo 2^i, also of a number below 0. -/
theorem and_mask (k : IntKind) (i : Nat) (hi : i ≤ k.bits) (hk : ∀ n : Int, 0 ≤ n → n < 2 ^ i → k.wrap n = n) (x : Int) :
    bits .and k x ((2 ^ i - 1 : Nat) : Int) = x % 2 ^ i := by
  have hpos : 0 < 2 ^ i := Nat.two_pow_pos i
  have hle : 2 ^ i ≤ 2 ^ k.bits := Nat.pow_le_pow_right (by decide) hi
  have hm : (2 ^ i - 1) % 2 ^ k.bits = 2 ^ i - 1 := Nat.mod_eq_of_lt (by omega)
  have hd : (2 ^ i : Int) ∣ 2 ^ k.bits := by
    obtain ⟨c, hc⟩ := Nat.pow_dvd_pow 2 hi
    exact ⟨(c : Int), by exact_mod_cast hc⟩
  have hx : (((x % (2 ^ k.bits : Nat)).toNat % 2 ^ i : Nat) : Int) = x % 2 ^ i := by
    have h0 : 0 ≤ x % ((2 ^ k.bits : Nat) : Int) := Int.emod_nonneg _ (by have := Nat.two_pow_pos k.bits; omega)
    rw [Int.natCast_emod, Int.toNat_of_nonneg h0]
    push_cast
    exact Int.emod_emod_of_dvd x hd
  have hn : (x % (2 ^ k.bits : Nat)).toNat &&& (2 ^ i - 1) = (x % (2 ^ k.bits : Nat)).toNat % 2 ^ i := Nat.and_two_pow_sub_one_eq_mod _ _
  simp only [bits, BitVec.ofInt_natCast, BitVec.toNat_and, BitVec.toNat_ofNat, BitVec.toNat_ofInt, hm, hn, hx]
  exact hk _ (Int.emod_nonneg _ (by have : (0 : Int) < 2 ^ i := by exact_mod_cast hpos
                                    omega)) (Int.emod_lt_of_pos _ (by exact_mod_cast hpos))
theorem wrap_i64' (n : Int) (h0 : 0 ≤ n) (h1 : n ≤ 9223372036854775807) : IntKind.i64.wrap n = n := by rw [IntKind.wrap_i64]; omega
theorem wrap_u64 (n : Int) : IntKind.u64.wrap n = n % 18446744073709551616 := by simp [IntKind.wrap, IntKind.bits, IntKind.signed]
theorem wrap_u16 (n : Int) : IntKind.u16.wrap n = n % 65536 := by simp [IntKind.wrap, IntKind.bits, IntKind.signed]
theorem and_65535_i64 (x : Int) : bits .and .i64 x 65535 = x % 65536 :=
  and_mask .i64 16 (by decide) (fun n h0 h1 => wrap_i64' n h0 (by omega)) x
theorem and_255_i64 (x : Int) : bits .and .i64 x 255 = x % 256 :=
  and_mask .i64 8 (by decide) (fun n h0 h1 => wrap_i64' n h0 (by omega)) x
theorem and_1_i64 (x : Int) : bits .and .i64 x 1 = x % 2 :=
  and_mask .i64 1 (by decide) (fun n h0 h1 => wrap_i64' n h0 (by omega)) x
theorem and_65535_u64 (x : Int) : bits .and .u64 x 65535 = x % 65536 :=
  and_mask .u64 16 (by decide) (fun n h0 h1 => by rw [wrap_u64]; omega) x
theorem and_1_u32 (x : Int) : bits .and .u32 x 1 = x % 2 :=
  and_mask .u32 1 (by decide) (fun n h0 h1 => by rw [IntKind.wrap_u32]; omega) x
theorem and_15_u8 (x : Int) : bits .and .u8 x 15 = x % 16 :=
  and_mask .u8 4 (by decide) (fun n h0 h1 => by rw [IntKind.wrap_u8]; omega) x
/-- '^x' of an unsigned number: what is lacking to the greatest. -/
theorem not_of (k : IntKind) (hu : k.signed = false) (x : Int) (h0 : 0 ≤ x) (h1 : x < 2 ^ k.bits) : bits .xor k k.max x = k.max - x := by
  obtain ⟨a, rfl⟩ := Int.eq_ofNat_of_zero_le h0
  have ha : a < 2 ^ k.bits := by exact_mod_cast h1
  have hpos : 0 < 2 ^ k.bits := Nat.two_pow_pos _
  have hmax : k.max = ((2 ^ k.bits - 1 : Nat) : Int) := by
    unfold IntKind.max
    rw [if_neg (by simp [hu]), Int.natCast_sub hpos]; simp
  have hall : BitVec.ofInt k.bits k.max = BitVec.allOnes k.bits := by
    rw [hmax, BitVec.ofInt_natCast]; apply BitVec.eq_of_toNat_eq; simp
  have hw : ∀ n : Nat, n < 2 ^ k.bits → k.wrap n = n := by
    intro n hn
    unfold IntKind.wrap
    simp only [hu, Bool.false_and]
    rw [if_neg (by simp)]
    exact_mod_cast Nat.mod_eq_of_lt hn
  unfold bits
  simp only [hall, BitVec.allOnes_xor, BitVec.toNat_not, BitVec.ofInt_natCast, BitVec.toNat_ofNat, Nat.mod_eq_of_lt ha]
  rw [hw _ (by omega), hmax]
  omega
theorem not_u16 (n : Int) : bits .xor .u16 IntKind.u16.max (n % 65536) = 65535 - n % 65536 :=
  not_of .u16 rfl (n % 65536) (by omega) (by show _ < (65536 : Int); omega)
theorem not_u32 (n : Int) (h0 : 0 ≤ n) (h1 : n < 4294967296) : bits .xor .u32 IntKind.u32.max n = 4294967295 - n :=
  not_of .u32 rfl n h0 (by show _ < (4294967296 : Int); omega)
theorem signed_u16 : IntKind.u16.signed = false := rfl
theorem signed_u32 : IntKind.u32.signed = false := rfl

/-- The sum of numbers of two bytes with its carries added at the low end. -/
def fold (s : Int) : Int := if s = 0 then 0 else (s - 1) % 65535 + 1
theorem fold_small (s : Int) (h0 : 0 ≤ s) (h1 : s ≤ 65535) : fold s = s := by unfold fold; split <;> omega
theorem fold_bd (s : Int) (h0 : 0 ≤ s) : 0 ≤ fold s ∧ fold s ≤ 65535 := by unfold fold; split <;> omega
theorem fold_shift (s : Int) (h : 65535 < s) : fold (s / 65536 + s % 65536) = fold s := by
  unfold fold; rw [if_neg (by omega), if_neg (by omega)]; omega
theorem fold_sub (s : Int) (h : 65535 < s) : fold (s - 65535) = fold s := by
  unfold fold; rw [if_neg (by omega), if_neg (by omega)]; omega

attribute [local go_sem] and_65535_u64 signed_u16 wrap_u16 not_u16
theorem fold_walk (s : Int) (h0 : 0 ≤ s) (h1 : s ≤ 18446744073709551615) (w : World) :
    Calls Try.prog 20 #[.int .u64 s] w fun e w' => e = .returned (.int .i64 (65535 - fold s)) ∧ w' = w := by
  go_enter Try.func20, Try.ntmps20
  go_wp2
  go_loop [0] (fun t => ∃ s' : Int, 0 ≤ s' ∧ s' ≤ 18446744073709551615 ∧ Hid (fold s' = fold s) ∧ t = .int .u64 s') (fun t => (intOf t).toNat)
  case atStart => exact ⟨s, h0, h1, hide rfl, rfl⟩
  case round =>
    obtain ⟨s', g0, g1, H, rfl⟩ := hrel
    by_cases hlt : 65535 < s'
    · go_wp2
      go_round
      case rel => exact ⟨s' / 65536 + s' % 65536, by omega, by omega, hide ((fold_shift s' hlt).trans H.out), by go_num⟩
      case measure => simp [intOf]; omega
    · go_wp2
      go_ret
      refine ⟨ret_int ?_, rfl⟩
      rw [← H.out, fold_small s' g0 (by omega)]
      omega

attribute [local go_sem] and_65535_i64
/-- What both sides fold for a patch. -/
def patchSum (a0 a1 a2 : Int) : Int := (65535 - a0 % 65536) + (65535 - a1 % 65536) + a2 % 65536
theorem patchSum_bd (a0 a1 a2 : Int) : 0 ≤ patchSum a0 a1 a2 ∧ patchSum a0 a1 a2 ≤ 196605 := by unfold patchSum; omega
theorem specPatch_walk (a0 a1 a2 : Int) (w : World) :
    Calls Try.prog 8 #[.int .i64 a0, .int .i64 a1, .int .i64 a2] w fun e w' => e = .returned (.int .i64 (65535 - fold (patchSum a0 a1 a2))) ∧ w' = w := by
  have hb := patchSum_bd a0 a1 a2
  go_enter Try.func8, Try.ntmps8
  go_wp2
  go_loop [7] (fun t => ∃ s' : Int, 0 ≤ s' ∧ s' ≤ 196605 ∧ Hid (fold s' = fold (patchSum a0 a1 a2)) ∧ t = .int .i64 s') (fun t => (intOf t).toNat)
  case atStart => exact ⟨patchSum a0 a1 a2, hb.1, hb.2, hide rfl, by unfold patchSum; go_num⟩
  case round =>
    obtain ⟨s', g0, g1, H, rfl⟩ := hrel
    clear hb
    by_cases hlt : 65535 < s'
    · go_wp2
      go_round
      case rel => exact ⟨s' - 65535, by omega, by omega, hide ((fold_sub s' hlt).trans H.out), by go_num⟩
      case measure => simp [intOf]; omega
    · go_wp2
      go_ret
      refine ⟨ret_int ?_, rfl⟩
      rw [← H.out, fold_small s' g0 (by omega)]
theorem patch_walk (a0 a1 a2 : Int) (w : World) :
    Calls Try.prog 9 #[.int .i64 a0, .int .i64 a1, .int .i64 a2] w fun e w' => e = .returned (.int .i64 (65535 - fold (patchSum a0 a1 a2))) ∧ w' = w := by
  go_enter Try.func9, Try.ntmps9
  go_wp2_with (go_at_call 20; refine (fold_walk _ (by omega) (by omega) _).mono ?_; rintro e w' ⟨rfl, rfl⟩)
  go_ret
  refine ⟨ret_int ?_, rfl⟩
  rfl

theorem walkChecksumPatch (a0 a1 a2 : Int) (w0 : (Lit.int .i64 a0).wf = true) (w1 : (Lit.int .i64 a1).wf = true) (w2 : (Lit.int .i64 a2).wf = true) (w : World) :
    Calls Try.prog 3 #[.int .i64 a0, .int .i64 a1, .int .i64 a2] w fun e w' => e = .returned (.bool true) ∧ Grown w w' := by
  go_enter Try.func3, Try.ntmps3
  go_wp2_with (first
    | (go_at_call 8; refine (specPatch_walk _ _ _ _).mono ?_; rintro e w' ⟨rfl, rfl⟩)
    | (go_at_call 9; refine (patch_walk _ _ _ _).mono ?_; rintro e w' ⟨rfl, rfl⟩))
  go_ret
  exact ⟨rfl, by repeat (first | exact Grown.refl _ | apply Grown.drew | apply Grown.alloc)⟩

theorem own : ownKnob Try.prog.godebug = none := by kernel_rfl

set_option maxRecDepth 100000 in
theorem fnExactChecksumPatch_lifted (os : Os) (started : os.Started) (H : Type) (enc : TypeId × Value → H) :
    ReturnsInHanded {} Try.checked os 3 .any (Rows.fnExactChecksumPatchSpec.pre6 enc Try.prog Try.f3 Rows.fnExactChecksumPatchRow.domain false) (Rows.fnExactChecksumPatchSpec.post enc Try.prog Try.f3 false true false false) := by
  refine returnsInHanded_of_change (C := Try.checked) own started (by kernel_rfl) Try.func3
    (ChangeSpec.witness6 (enc := enc) (C := Try.checked) false ⟨#[], #[.int .i64 0, .int .i64 0, .int .i64 0], []⟩ 8 (by kernel_rfl) (by kernel_rfl) (by kernel_rfl) (by kernel_rfl)) ?_
  intro W base args ds gs before hval0 hW hcnd _
  have hval : ∀ (j : Nat) t v, Try.f3.params[j]? = some t → args[j]? = some v → Value.okWide Try.prog W .any base t v := hval0
  have hW' := hW
  obtain ⟨p, q, hA0, hV, rfl, hfz, hnd⟩ := hW
  have hA : DataW.TrodAll enc Try.prog W 0 (fun _ => true) true Try.f3.params.toList args.toList ds p := hA0
  rw [Try.params3] at hA hval
  obtain ⟨v0, vs0, d0, ds0, p0, q0, hargs, rfl, rfl, h0, r0⟩ := trodAll_cons hA
  obtain ⟨v1, vs1, d1, ds1, p1, q1, rfl, rfl, rfl, h1, r1⟩ := trodAll_cons r0
  obtain ⟨v2, vs2, d2, ds2, p2, q2, rfl, rfl, rfl, h2, r2⟩ := trodAll_cons r1
  obtain ⟨rfl, rfl, rfl⟩ := trodAll_nil r2
  obtain rfl : args = #[v0, v1, v2] := by cases args; simp_all
  obtain ⟨rfl, rfl⟩ := trodVars_none hV
  obtain ⟨a0, rfl, rfl, rfl, w0⟩ := open_int Try.underlying2 (hval 0 2 v0 rfl rfl) h0
  obtain ⟨a1, rfl, rfl, rfl, w1⟩ := open_int Try.underlying2 (hval 1 2 v1 rfl rfl) h1
  obtain ⟨a2, rfl, rfl, rfl, w2⟩ := open_int Try.underlying2 (hval 2 2 v2 rfl rfl) h2
  clear hA0 hval0
  simp only [List.append_nil] at hW'
  refine (walkChecksumPatch a0 a1 a2 w0 w1 w2 W).mono fun e W' ⟨he, hg⟩ => ?_
  subst he
  exact ⟨_, rfl, post_of_same (pa := []) (pv := []) hW' (fun _ _ _ => (trodAll_cons_mk (shut_bool Try.underlying4 _) trodAll_mk0)) (fun sp _ => (trodAll_cons_mk (shut_int Try.underlying2 w0) (trodAll_cons_mk (shut_int Try.underlying2 w1) (trodAll_cons_mk (shut_int Try.underlying2 w2) trodAll_mk0)))) (fun _ _ => rfl) rfl
    (hg.frame _) hg.2.1 (ok_one (by kernel_rfl) rfl (okWide_bool_mk Try.underlying4 _))⟩

theorem fnExactChecksumPatch_over : Rows.fnExactChecksumPatchRow.holds Try.pinned (OpenSpec.ofChange Rows.fnExactChecksumPatchSpec) :=
  OpenClaim.holds_of_wide 3 Try.f3 rfl rfl rfl rfl rfl rfl rfl ⟨rfl, rfl, rfl, rfl, rfl⟩ rfl rfl rfl rfl rfl (by kernel_rfl) Try.func3 (by kernel_rfl)
    (of_decide_eq_true (by kernel_rfl)) (by unfold Func.isWrapper; first | (rw [if_pos (by decide +kernel)]; kernel_rfl) | (rw [if_neg (by decide +kernel)]; exact ⟨rfl, rfl⟩))
    (fun os started H enc _ => fnExactChecksumPatch_lifted os started H enc)

theorem fnExactChecksumPatch_holds : Rows.FnExactChecksumPatchSaid :=
  fnExactChecksumPatch_over
end Go.Proofs.Ytmgjagajcmeikaa
