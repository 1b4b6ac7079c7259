/-
Contracts of functions of this seat.
-/
import Derived.Test.YtmgjagajcmeikajRows
import Derived.WalkKit
import Derived.ProofKit
import Derived.OpenShut
import Derived.Deep.QuietTactic
import Derived.Below
import Derived.BigQuiet
import Derived.Deep.RegionHeld3
import Derived.RegionTactic
import Derived.Deep.RegionWith
import Derived.Lib.QuietBelow
import Derived.Laws.IdiomStrings
namespace Go.Proofs.Ytmgjagajcmeikaj
open Go.ChangeShapes Go.WideShapes Go.ChangeAt Go.RowKit
set_option linter.unusedVariables false
theorem i64_bd {a : Int} (h : (Lit.int .i64 a).wf = true) : -9223372036854775808 ≤ a ∧ a ≤ 9223372036854775807 := by
  simpa [Lit.wf, IntKind.min, IntKind.max, IntKind.signed, IntKind.bits] using h
theorem ret_int {k : IntKind} {a b : Int} (h : a = b) : Ending.returned (.int k a) = .returned (.int k b) := by rw [h]
theorem ret_bool {a b : Bool} (h : a = b) : Ending.returned (.bool a) = .returned (.bool b) := by rw [h]
theorem hide {P : Prop} (h : P) : Hid P := h
theorem below_drewN {B : Nat} {a w : World} (h : Below B a w) (n : Nat) : Below B a (w.drewN n) := ⟨h.os, h.tape, h.output, h.size, h.block⟩
theorem below_undrew {B : Nat} {w w' : World} (h : Below B w.drew w') : Below B w w' := ⟨h.os, h.tape, h.output, h.size, h.block⟩

/-- 'x & (2^i - 1)' is x modulo 2^i, also of a number below 0. -/
theorem and_mask (k : IntKind) (i : Nat) (hi : i ≤ k.bits) (hk : ∀ n : Int, 0 ≤ n → n < 2 ^ i → k.wrap n = n) (x : Int) :
    bits .and k x ((2 ^ i - 1 : Nat) : Int) = x % 2 ^ i := by
  have hpos : 0 < 2 ^ i := Nat.two_pow_pos i
  have hle : 2 ^ i ≤ 2 ^ k.bits := Nat.pow_le_pow_right (by decide) hi
  have hm : (2 ^ i - 1) % 2 ^ k.bits = 2 ^ i - 1 := Nat.mod_eq_of_lt (by omega)
  have hd : (2 ^ i : Int) ∣ 2 ^ k.bits := by
    obtain ⟨c, hc⟩ := Nat.pow_dvd_pow 2 hi
    exact ⟨(c : Int), by exact_mod_cast hc⟩
  have hx : (((x % (2 ^ k.bits : Nat)).toNat % 2 ^ i : Nat) : Int) = x % 2 ^ i := by
    have h0 : 0 ≤ x % ((2 ^ k.bits : Nat) : Int) := Int.emod_nonneg _ (by have := Nat.two_pow_pos k.bits; omega)
    rw [Int.natCast_emod, Int.toNat_of_nonneg h0]
    push_cast
    exact Int.emod_emod_of_dvd x hd
  have hn : (x % (2 ^ k.bits : Nat)).toNat &&& (2 ^ i - 1) = (x % (2 ^ k.bits : Nat)).toNat % 2 ^ i := Nat.and_two_pow_sub_one_eq_mod _ _
  simp only [bits, BitVec.ofInt_natCast, BitVec.toNat_and, BitVec.toNat_ofNat, BitVec.toNat_ofInt, hm, hn, hx]
  exact hk _ (Int.emod_nonneg _ (by have : (0 : Int) < 2 ^ i := by exact_mod_cast hpos
                                    omega)) (Int.emod_lt_of_pos _ (by exact_mod_cast hpos))
theorem wrap_i64' (n : Int) (h0 : 0 ≤ n) (h1 : n ≤ 9223372036854775807) : IntKind.i64.wrap n = n := by rw [IntKind.wrap_i64]; omega
theorem wrap_u64 (n : Int) : IntKind.u64.wrap n = n % 18446744073709551616 := by simp [IntKind.wrap, IntKind.bits, IntKind.signed]
theorem wrap_u16 (n : Int) : IntKind.u16.wrap n = n % 65536 := by simp [IntKind.wrap, IntKind.bits, IntKind.signed]
theorem and_65535_i64 (x : Int) : bits .and .i64 x 65535 = x % 65536 :=
  and_mask .i64 16 (by decide) (fun n h0 h1 => wrap_i64' n h0 (by omega)) x
theorem and_255_i64 (x : Int) : bits .and .i64 x 255 = x % 256 :=
  and_mask .i64 8 (by decide) (fun n h0 h1 => wrap_i64' n h0 (by omega)) x
theorem and_1_i64 (x : Int) : bits .and .i64 x 1 = x % 2 :=
  and_mask .i64 1 (by decide) (fun n h0 h1 => wrap_i64' n h0 (by omega)) x
theorem and_65535_u64 (x : Int) : bits .and .u64 x 65535 = x % 65536 :=
  and_mask .u64 16 (by decide) (fun n h0 h1 => by rw [wrap_u64]; omega) x
theorem and_1_u32 (x : Int) : bits .and .u32 x 1 = x % 2 :=
  and_mask .u32 1 (by decide) (fun n h0 h1 => by rw [IntKind.wrap_u32]; omega) x
theorem and_15_u8 (x : Int) : bits .and .u8 x 15 = x % 16 :=
  and_mask .u8 4 (by decide) (fun n h0 h1 => by rw [IntKind.wrap_u8]; omega) x
/-- '^x' of an unsigned number: what is lacking to the greatest. -/
theorem not_of (k : IntKind) (hu : k.signed = false) (x : Int) (h0 : 0 ≤ x) (h1 : x < 2 ^ k.bits) : bits .xor k k.max x = k.max - x := by
  obtain ⟨a, rfl⟩ := Int.eq_ofNat_of_zero_le h0
  have ha : a < 2 ^ k.bits := by exact_mod_cast h1
  have hpos : 0 < 2 ^ k.bits := Nat.two_pow_pos _
  have hmax : k.max = ((2 ^ k.bits - 1 : Nat) : Int) := by
    unfold IntKind.max
    rw [if_neg (by simp [hu]), Int.natCast_sub hpos]; simp
  have hall : BitVec.ofInt k.bits k.max = BitVec.allOnes k.bits := by
    rw [hmax, BitVec.ofInt_natCast]; apply BitVec.eq_of_toNat_eq; simp
  have hw : ∀ n : Nat, n < 2 ^ k.bits → k.wrap n = n := by
    intro n hn
    unfold IntKind.wrap
    simp only [hu, Bool.false_and]
    rw [if_neg (by simp)]
    exact_mod_cast Nat.mod_eq_of_lt hn
  unfold bits
  simp only [hall, BitVec.allOnes_xor, BitVec.toNat_not, BitVec.ofInt_natCast, BitVec.toNat_ofNat, Nat.mod_eq_of_lt ha]
  rw [hw _ (by omega), hmax]
  omega
theorem not_u16 (n : Int) : bits .xor .u16 IntKind.u16.max (n % 65536) = 65535 - n % 65536 :=
  not_of .u16 rfl (n % 65536) (by omega) (by show _ < (65536 : Int); omega)
theorem not_u32 (n : Int) (h0 : 0 ≤ n) (h1 : n < 4294967296) : bits .xor .u32 IntKind.u32.max n = 4294967295 - n :=
  not_of .u32 rfl n h0 (by show _ < (4294967296 : Int); omega)
theorem signed_u16 : IntKind.u16.signed = false := rfl
theorem signed_u32 : IntKind.u32.signed = false := rfl

theorem In_yes (n a b : Int) (w : World) (h : a ≤ n ∧ n ≤ b) :
    Calls Try.prog 26 #[.int .i64 n, .int .i64 a, .int .i64 b] w fun e w' => e = .returned (.bool true) ∧ w' = w := by
  obtain ⟨h1, h2⟩ := h
  go_enter Try.func26, Try.ntmps26
  go_wp2
  go_ret
  exact ⟨rfl, rfl⟩
theorem In_no (n a b : Int) (w : World) (h : ¬ (a ≤ n ∧ n ≤ b)) :
    Calls Try.prog 26 #[.int .i64 n, .int .i64 a, .int .i64 b] w fun e w' => e = .returned (.bool false) ∧ w' = w := by
  by_cases h1 : a ≤ n
  · have h2 : ¬ n ≤ b := fun h2 => h ⟨h1, h2⟩
    clear h
    go_enter Try.func26, Try.ntmps26
    go_wp2
    go_ret
    exact ⟨rfl, rfl⟩
  · clear h
    go_enter Try.func26, Try.ntmps26
    go_wp2
    go_ret
    exact ⟨rfl, rfl⟩

/-- It is an address. -/
def adrB (a : Int) : Bool := decide (0 ≤ a ∧ a ≤ 4294967295)
theorem adrB_iff {a : Int} : adrB a = true ↔ 0 ≤ a ∧ a ≤ 4294967295 := by unfold adrB; simp

theorem specAddrOK_walk (a : Int) (w : World) :
    Calls Try.prog 25 #[.int .i64 a] w fun e w' => e = .returned (.bool (adrB a)) ∧ w' = w := by
  by_cases h : 0 ≤ a ∧ a ≤ 4294967295
  · have e := hide (adrB_iff.2 h)
    go_enter Try.func25, Try.ntmps25
    go_wp2_with (go_at_call 26; refine (In_yes _ _ _ _ h).mono ?_; rintro e w' ⟨rfl, rfl⟩)
    go_ret
    exact ⟨ret_bool e.out.symm, rfl⟩
  · have e : Hid (adrB a = false) := hide (by unfold adrB; simpa using h)
    go_enter Try.func25, Try.ntmps25
    go_wp2_with (go_at_call 26; refine (In_no _ _ _ _ h).mono ?_; rintro e w' ⟨rfl, rfl⟩)
    go_ret
    exact ⟨ret_bool e.out.symm, rfl⟩

theorem isAddr_walk (a : Int) (w : World) :
    Calls Try.prog 19 #[.int .i64 a] w fun e w' => e = .returned (.bool (adrB a)) ∧ w' = w := by
  by_cases h1 : 0 ≤ a
  · by_cases h2 : a ≤ 4294967295
    · have e := hide (adrB_iff.2 ⟨h1, h2⟩)
      go_enter Try.func19, Try.ntmps19
      go_wp2
      go_ret
      exact ⟨ret_bool e.out.symm, rfl⟩
    · have e : Hid (adrB a = false) := hide (by unfold adrB; simp; omega)
      go_enter Try.func19, Try.ntmps19
      go_wp2
      go_ret
      exact ⟨ret_bool e.out.symm, rfl⟩
  · have e : Hid (adrB a = false) := hide (by unfold adrB; simp; omega)
    go_enter Try.func19, Try.ntmps19
    go_wp2
    go_ret
    exact ⟨ret_bool e.out.symm, rfl⟩

/-- How many addresses a prefix of b bits has. -/
def sz (b : Int) : Int := 2 ^ (32 - b.toNat)
theorem sz_pos (b : Int) : 0 < sz b := by unfold sz; exact Int.pow_pos (by decide)
theorem sz_le (b : Int) : sz b ≤ 4294967296 := by
  unfold sz
  have h : 2 ^ (32 - b.toNat) ≤ 2 ^ 32 := Nat.pow_le_pow_right (by decide) (by omega)
  have : ((2 ^ (32 - b.toNat) : Nat) : Int) ≤ ((2 ^ 32 : Nat) : Int) := by exact_mod_cast h
  simpa using this
theorem host_fin : ∀ n : Fin 33, (4294967295 : Int) / 2 ^ n.val = 2 ^ (32 - n.val) - 1 := by decide
theorem host_eq (b : Int) (h0 : 0 ≤ b) (h1 : b ≤ 32) : (4294967295 : Int) / 2 ^ b.toNat = sz b - 1 := by
  have := host_fin ⟨b.toNat, by omega⟩
  exact this
theorem sz_step (b : Int) (h0 : 0 ≤ b) (h1 : b < 32) : sz b = sz (b + 1) * 2 := by
  unfold sz
  rw [show (32 - b.toNat) = (32 - (b + 1).toNat) + 1 by omega, Int.pow_succ]
theorem sz_32 (b : Int) (h : 32 ≤ b) : sz b = 1 := by unfold sz; rw [show 32 - b.toNat = 0 by omega]; rfl
/-- A prefix is valid. -/
def prefB (a b : Int) : Bool := decide (0 ≤ b) && decide (b ≤ 32) && adrB a && (a % sz b == 0)
/-- An address is in a prefix. -/
def hasB (a b x : Int) : Bool := prefB a b && adrB x && (x / sz b == a / sz b)
theorem prefB_true {a b : Int} (h0 : 0 ≤ b) (h1 : b ≤ 32) (h2 : adrB a = true) : prefB a b = (a % sz b == 0) := by unfold prefB; simp [h0, h1, h2]
theorem prefB_neg {a b : Int} (h0 : ¬ 0 ≤ b) : prefB a b = false := by unfold prefB; simp [h0]
theorem prefB_big {a b : Int} (h0 : ¬ b ≤ 32) : prefB a b = false := by unfold prefB; simp [h0]
theorem prefB_adr {a b : Int} (h0 : adrB a = false) : prefB a b = false := by unfold prefB; simp [h0]
theorem prefB_iff {a b : Int} : prefB a b = true ↔ 0 ≤ b ∧ b ≤ 32 ∧ adrB a = true ∧ a % sz b = 0 := by unfold prefB; simp [and_assoc]
/-- 'x &^ (2^m - 1)': the bits behind are 0. -/
theorem andNot_low (x m : Nat) (hx : x < 2 ^ 63) (hm : m ≤ 32) : bits .andNot .i64 (x : Int) ((2 ^ m - 1 : Nat) : Int) = ((x - x % 2 ^ m : Nat) : Int) := by
  have hp : 2 ^ m ≤ 2 ^ 32 := Nat.pow_le_pow_right (by decide) hm
  have hpos : 0 < 2 ^ m := Nat.two_pow_pos m
  have key : BitVec.ofNat 64 x &&& ~~~ (BitVec.ofNat 64 (2 ^ m - 1)) = BitVec.ofNat 64 (x - x % 2 ^ m) := by
    have hd : x - x % 2 ^ m = (x / 2 ^ m) * 2 ^ m := by
      have := Nat.div_add_mod x (2 ^ m); rw [Nat.mul_comm] at this; omega
    apply BitVec.eq_of_getLsbD_eq
    intro i hi
    rw [hd, ← Nat.shiftRight_eq_div_pow, ← Nat.shiftLeft_eq]
    simp only [BitVec.getLsbD_and, BitVec.getLsbD_not, BitVec.getLsbD_ofNat, Nat.testBit_two_pow_sub_one, Nat.testBit_shiftLeft, Nat.testBit_shiftRight, hi, decide_true, Bool.true_and]
    by_cases him : m ≤ i
    · rw [show m + (i - m) = i by omega]; simp [him]
    · simp [him]; omega
  have hkey : (BitVec.ofInt 64 (x : Int) &&& ~~~ (BitVec.ofInt 64 ((2 ^ m - 1 : Nat) : Int))) = BitVec.ofNat 64 (x - x % 2 ^ m) := by
    rw [BitVec.ofInt_natCast, BitVec.ofInt_natCast]; exact key
  have hr : x - x % 2 ^ m < 2 ^ 63 := by omega
  unfold bits
  show IntKind.i64.wrap ((BitVec.ofInt 64 (x : Int) &&& ~~~ (BitVec.ofInt 64 ((2 ^ m - 1 : Nat) : Int))).toNat : Int) = _
  rw [hkey, BitVec.toNat_ofNat, Nat.mod_eq_of_lt (by omega)]
  exact wrap_i64' _ (Int.natCast_nonneg _) (by omega)
theorem andNot_sz (x b : Int) (h0 : 0 ≤ x) (h1 : x ≤ 4294967295) : bits .andNot .i64 x (sz b - 1) = x - x % sz b := by
  obtain ⟨n, rfl⟩ := Int.eq_ofNat_of_zero_le h0
  have h := andNot_low n (32 - b.toNat) (by omega) (by omega)
  have hpos : 0 < 2 ^ (32 - b.toNat) := Nat.two_pow_pos _
  have e : sz b - 1 = ((2 ^ (32 - b.toNat) - 1 : Nat) : Int) := by
    unfold sz; rw [Int.natCast_sub hpos]; simp
  rw [e, h]
  have hle : n % 2 ^ (32 - b.toNat) ≤ n := Nat.mod_le _ _
  rw [Int.natCast_sub hle]
  unfold sz
  simp
theorem same_block {a x s : Int} (hs : 0 < s) (ha : a % s = 0) : (x - x % s = a) ↔ (x / s = a / s) := by
  have e1 := Int.mul_ediv_add_emod x s
  have e2 := Int.mul_ediv_add_emod a s
  rw [ha] at e2
  constructor
  · intro h
    have h3 : s * (x / s) = s * (a / s) := by omega
    exact Int.eq_of_mul_eq_mul_left (by omega) h3
  · intro h
    rw [h] at e1
    omega

theorem size_walk (b : Int) (h0 : 0 ≤ b) (h1 : b ≤ 32) (w : World) :
    Calls Try.prog 22 #[.int .i64 b] w fun e w' => e = .returned (.int .i64 (sz b)) ∧ w' = w := by
  go_enter Try.func22, Try.ntmps22
  go_wp2_with fail
  go_loop [3, 4] (fun n t => ∃ i : Int, b ≤ i ∧ i ≤ 32 ∧ t = .int .i64 i ∧ ∃ m : Int, n = .int .i64 m ∧ 0 < m ∧ m ≤ 4294967296 ∧ Hid (m * sz i = sz b)) (fun _ t => (32 - intOf t).toNat)
  case atStart => exact ⟨b, Int.le_refl _, h1, rfl, 1, rfl, by decide, by decide, hide (by omega)⟩
  case round =>
    obtain ⟨i, hi1, hi2, rfl, m, rfl, hm0, hm1, HM⟩ := hrel
    by_cases hlt : i < 32
    · have HS := hide (sz_step i (by omega) hlt)
      have hp := sz_pos (i + 1)
      have hle := sz_le b
      have hm2 : m * 2 ≤ 4294967296 := by
        have e : m * 2 * sz (i + 1) = sz b := by rw [← HM.out, HS.out, Int.mul_assoc, Int.mul_comm 2]
        have : m * 2 * 1 ≤ m * 2 * sz (i + 1) := Int.mul_le_mul_of_nonneg_left (by omega) (by omega)
        omega
      have HE : Hid (m * 2 * sz (i + 1) = sz b) := hide (by rw [← HM.out, HS.out, Int.mul_assoc, Int.mul_comm 2])
      clear hle hp
      go_wp2
      go_round
      case rel => exact ⟨i + 1, by omega, by omega, by go_num, m * 2, by go_num, by omega, hm2, HE⟩
      case measure => simp [intOf]; omega
    · have HE : Hid (m = sz b) := hide (by rw [← HM.out, sz_32 i (by omega)]; omega)
      go_wp2
      go_ret
      exact ⟨ret_int HE.out, rfl⟩
set_option maxHeartbeats 1000000 in
theorem specOK_yes (a b : Int) (w : World) (ha : adrB a = true) (hb : 0 ≤ b ∧ b ≤ 32) :
    Calls Try.prog 15 #[.agg #[.int .i64 a, .int .i64 b]] w fun e w' => e = .returned (.bool (prefB a b)) ∧ Below w.heap.size w w' := by
  have hp := sz_pos b
  have hne : sz b ≠ 0 := by omega
  have hab := adrB_iff.1 ha
  have HP := hide (prefB_true hb.1 hb.2 ha)
  go_enter Try.func15, Try.ntmps15
  go_wp2_with fail
  go_quiet ((first
    | (go_at_call 25; refine Calls.quiet_of_same (specAddrOK_walk _ _))
    | (go_at_call 26; refine Calls.quiet_of_same (In_yes _ _ _ _ hb))
    | (go_at_call 22; refine Calls.quiet_of_same (size_walk _ hb.1 hb.2 _))))
  go_wp2
  go_ret
  exact ⟨ret_bool (by rw [HP.out, Int.tmod_eq_emod_of_nonneg hab.1]), below_drewN ((Below.refl _ _).alloc (Nat.le_refl _) _) nq⟩
set_option maxHeartbeats 1000000 in
theorem specOK_bits (a b : Int) (w : World) (ha : adrB a = true) (hb : ¬ (0 ≤ b ∧ b ≤ 32)) :
    Calls Try.prog 15 #[.agg #[.int .i64 a, .int .i64 b]] w fun e w' => e = .returned (.bool (prefB a b)) ∧ Below w.heap.size w w' := by
  have HP : Hid (prefB a b = false) := hide (by
    by_cases h0 : 0 ≤ b
    · exact prefB_big (fun h1 => hb ⟨h0, h1⟩)
    · exact prefB_neg h0)
  have HB := hide hb
  clear hb
  go_enter Try.func15, Try.ntmps15
  go_wp2_with fail
  go_quiet ((first
    | (go_at_call 25; refine Calls.quiet_of_same (specAddrOK_walk _ _))
    | (go_at_call 26; refine Calls.quiet_of_same (In_no _ _ _ _ HB.out))))
  go_wp2
  go_ret
  exact ⟨ret_bool HP.out.symm, below_drewN ((Below.refl _ _).alloc (Nat.le_refl _) _) nq⟩
set_option maxHeartbeats 1000000 in
theorem specOK_adr (a b : Int) (w : World) (ha : adrB a = false) :
    Calls Try.prog 15 #[.agg #[.int .i64 a, .int .i64 b]] w fun e w' => e = .returned (.bool (prefB a b)) ∧ Below w.heap.size w w' := by
  have HP : Hid (prefB a b = false) := hide (prefB_adr ha)
  go_enter Try.func15, Try.ntmps15
  go_wp2_with fail
  go_quiet ((go_at_call 25; refine Calls.quiet_of_same (specAddrOK_walk _ _)))
  go_wp2
  go_ret
  exact ⟨ret_bool HP.out.symm, below_drewN ((Below.refl _ _).alloc (Nat.le_refl _) _) nq⟩
theorem specPrefixOK_walk (a b : Int) (w : World) :
    Calls Try.prog 15 #[.agg #[.int .i64 a, .int .i64 b]] w fun e w' => e = .returned (.bool (prefB a b)) ∧ Below w.heap.size w w' := by
  by_cases ha : adrB a = true
  · by_cases hb : 0 ≤ b ∧ b ≤ 32
    · exact specOK_yes a b w ha hb
    · exact specOK_bits a b w ha hb
  · exact specOK_adr a b w (by simpa using ha)

theorem boxS_start (w : World) (x y : Value) (t : Nat) : Below w.heap.size w ((w.alloc (.cells #[x, y] t)).drew) ∧ w.heap.size < ((w.alloc (.cells #[x, y] t)).drew).heap.size ∧ ((w.alloc (.cells #[x, y] t)).drew).cell? ⟨w.heap.size, 0, none⟩ = some x ∧ ((w.alloc (.cells #[x, y] t)).drew).cell? ⟨w.heap.size, 1, none⟩ = some y := by
  refine ⟨((Below.refl _ _).alloc (Nat.le_refl _) _).drew, ?_, ?_, ?_⟩
  · show w.heap.size < (w.alloc _).heap.size
    rw [World.size_alloc]; omega
  · show (w.alloc _).cell? _ = _
    exact cell_of_row _ w.heap.size 0 #[x, y] t (0, 0) (heap_alloc_new w _)
  · show (w.alloc _).cell? _ = _
    exact cell_of_row _ w.heap.size 1 #[x, y] t (0, 0) (heap_alloc_new w _)
theorem boxS_below {w w1 w2 : World} {x y : Value} (h : Below w.heap.size w w1 ∧ w.heap.size < w1.heap.size ∧ w1.cell? ⟨w.heap.size, 0, none⟩ = some x ∧ w1.cell? ⟨w.heap.size, 1, none⟩ = some y) (hb : Below w1.heap.size w1 w2) :
    Below w.heap.size w w2 ∧ w.heap.size < w2.heap.size ∧ w2.cell? ⟨w.heap.size, 0, none⟩ = some x ∧ w2.cell? ⟨w.heap.size, 1, none⟩ = some y := by
  refine ⟨h.1.trans (hb.mono (by omega)), by have := hb.size; omega, ?_, ?_⟩
  · rw [hb.cell (p := ⟨w.heap.size, 0, none⟩) h.2.1]; exact h.2.2.1
  · rw [hb.cell (p := ⟨w.heap.size, 1, none⟩) h.2.1]; exact h.2.2.2

theorem eqPref (a b c d : Int) (w : World) : (Op.equalIn 10000 24 (.agg #[.int .i64 a, .int .i64 b]) (.agg #[.int .i64 c, .int .i64 d])).run Try.prog w = .ok (a == c && b == d) w := by
  have u3 := Try.underlying2
  have a3 := Try.isAgg2
  have z3 := Try.sizeOf2
  have hS : Try.prog.underlying 24 = some (.struct (Try.prog.fieldsOf 24)) := by kernel_rfl
  rw [show (10000 : Nat) = 9999 + 1 from rfl, run_equalIn_agg w 9999 24 _ _ hS (by kernel_rfl)]
  simp only [Program.fieldsOf, Try.underlying24]
  go_simp
  by_cases h1 : a = c <;> by_cases h2 : b = d <;> simp [h1, h2]
theorem hostPart_walk (b : Int) (h0 : 0 ≤ b) (h1 : b ≤ 32) (w : World) :
    Calls Try.prog 21 #[.int .i64 b] w fun e w' => e = .returned (.int .i64 (sz b - 1)) ∧ w' = w := by
  have HE := hide (host_eq b h0 h1)
  go_enter Try.func21, Try.ntmps21
  go_wp2
  go_ret
  exact ⟨ret_int (by rw [← HE.out]), rfl⟩
theorem around_walk (a b : Int) (ha : 0 ≤ a) (ha1 : a ≤ 4294967295) (h0 : 0 ≤ b) (h1 : b ≤ 32) (w : World) :
    Calls Try.prog 20 #[.int .i64 a, .int .i64 b] w fun e w' => e = .returned (.agg #[.int .i64 (a - a % sz b), .int .i64 b]) ∧ Below w.heap.size w w' := by
  have HE := andNot_sz a b ha ha1
  have hp := sz_pos b
  go_enter Try.func20, Try.ntmps20
  go_wp2_with (go_at_call 21; refine (hostPart_walk _ h0 h1 _).mono ?_; rintro e w' ⟨rfl, rfl⟩)
  exact bodyPost_ret (v := .agg #[.int .i64 (a - a % sz b), .int .i64 b]) (by simp [results, Try.results20, go_sem]) rfl ⟨rfl, (Below.refl _ _).alloc (Nat.le_refl _) _⟩
theorem prefB_eq {a b : Int} (h0 : 0 ≤ b) (h1 : b ≤ 32) (h2 : adrB a = true) : prefB a b = (a == a - a % sz b) := by
  rw [prefB_true h0 h1 h2, Bool.eq_iff_iff]; simp; omega
set_option maxHeartbeats 2000000 in
theorem valid_yes (a b : Int) (w : World) (h0 : 0 ≤ b) (h1 : b ≤ 32) (ha : adrB a = true) :
    Calls Try.prog 18 #[.agg #[.int .i64 a, .int .i64 b]] w fun e w' => e = .returned (.bool (prefB a b)) ∧ Below w.heap.size w w' := by
  have hab := adrB_iff.1 ha
  have HP := hide (prefB_eq h0 h1 ha)
  have heq := eqPref a b (a - a % sz b) b
  go_enter Try.func18, Try.ntmps18
  go_wp2_with fail
  go_region_held3 (fun w' => Below w.heap.size w w' ∧ w.heap.size < w'.heap.size ∧ w'.cell? ⟨w.heap.size, 0, none⟩ = some (.int .i64 a) ∧ w'.cell? ⟨w.heap.size, 1, none⟩ = some (.int .i64 b))
    (first | exact boxS_start w _ _ _ | assumption | exact boxS_below (by assumption) (by assumption))
    (first
      | (go_at_call 19; refine (isAddr_walk _ _).mono ?_; rintro e w' ⟨rfl, rfl⟩)
      | (go_at_call 20; refine (around_walk _ _ hab.1 hab.2 h0 h1 _).mono ?_; rintro e w' ⟨rfl, hbel⟩))
  go_wp2
  go_ret
  refine ⟨ret_bool HP.out.symm, ?_⟩
  rename_i hh
  exact hh.1
set_option maxHeartbeats 1000000 in
theorem valid_neg (a b : Int) (w : World) (h0 : ¬ 0 ≤ b) :
    Calls Try.prog 18 #[.agg #[.int .i64 a, .int .i64 b]] w fun e w' => e = .returned (.bool (prefB a b)) ∧ Below w.heap.size w w' := by
  have HP := hide (prefB_neg (a := a) h0)
  have hd : decide (0 ≤ b) = false := by simpa using h0
  clear h0
  go_enter Try.func18, Try.ntmps18
  go_wp2_with fail
  go_quiet (fail)
  go_wp2
  go_ret
  exact ⟨ret_bool HP.out.symm, below_drewN ((Below.refl _ _).alloc (Nat.le_refl _) _) nq⟩
set_option maxHeartbeats 1000000 in
theorem valid_big (a b : Int) (w : World) (h0 : 0 ≤ b) (h1 : ¬ b ≤ 32) :
    Calls Try.prog 18 #[.agg #[.int .i64 a, .int .i64 b]] w fun e w' => e = .returned (.bool (prefB a b)) ∧ Below w.heap.size w w' := by
  have HP := hide (prefB_big (a := a) h1)
  have hd : decide (b ≤ 32) = false := by simpa using h1
  clear h1
  go_enter Try.func18, Try.ntmps18
  go_wp2_with fail
  go_quiet (fail)
  go_wp2
  go_ret
  exact ⟨ret_bool HP.out.symm, below_drewN ((Below.refl _ _).alloc (Nat.le_refl _) _) nq⟩
set_option maxHeartbeats 1000000 in
theorem valid_adr (a b : Int) (w : World) (h0 : 0 ≤ b) (h1 : b ≤ 32) (ha : adrB a = false) :
    Calls Try.prog 18 #[.agg #[.int .i64 a, .int .i64 b]] w fun e w' => e = .returned (.bool (prefB a b)) ∧ Below w.heap.size w w' := by
  have HP := hide (prefB_adr (b := b) ha)
  go_enter Try.func18, Try.ntmps18
  go_wp2_with fail
  go_quiet ((go_at_call 19; refine Calls.quiet_of_same (isAddr_walk _ _)))
  go_wp2
  go_ret
  exact ⟨ret_bool HP.out.symm, below_drewN ((Below.refl _ _).alloc (Nat.le_refl _) _) nq⟩
theorem valid_walk (a b : Int) (w : World) :
    Calls Try.prog 18 #[.agg #[.int .i64 a, .int .i64 b]] w fun e w' => e = .returned (.bool (prefB a b)) ∧ Below w.heap.size w w' := by
  by_cases h0 : 0 ≤ b
  · by_cases h1 : b ≤ 32
    · by_cases ha : adrB a = true
      · exact valid_yes a b w h0 h1 ha
      · exact valid_adr a b w h0 h1 (by simpa using ha)
    · exact valid_big a b w h0 h1
  · exact valid_neg a b w h0

theorem box_facts (w : World) (x y : Value) (t : Nat) : Below w.heap.size w (w.alloc (.cells #[x, y] t)) ∧ (w.alloc (.cells #[x, y] t)).cell? ⟨w.heap.size, 0, none⟩ = some x ∧ (w.alloc (.cells #[x, y] t)).cell? ⟨w.heap.size, 1, none⟩ = some y := by
  refine ⟨(Below.refl _ _).alloc (Nat.le_refl _) _, ?_, ?_⟩
  · exact cell_of_row _ w.heap.size 0 #[x, y] t (0, 0) (heap_alloc_new w _)
  · exact cell_of_row _ w.heap.size 1 #[x, y] t (0, 0) (heap_alloc_new w _)
theorem below_then {w W : World} (h : Below w.heap.size w W) (d : Nat) (os : Array Obj) : Below w.heap.size w (Go.Sort.grow (redrawn W d) os) :=
  h.trans ((below_regrown W d os).mono h.size)

theorem hasB_no {a b x : Int} (h : prefB a b = false) : hasB a b x = false := by unfold hasB; simp [h]
theorem hasB_adr {a b x : Int} (h : adrB x = false) : hasB a b x = false := by unfold hasB; simp [h]
theorem hasB_yes {a b x : Int} (h : prefB a b = true) (hx : adrB x = true) : hasB a b x = (x / sz b == a / sz b) := by unfold hasB; simp [h, hx]
theorem hasB_impl {a b x : Int} (h : prefB a b = true) (hx : adrB x = true) : hasB a b x = (x - x % sz b == a) := by
  rw [hasB_yes h hx, Bool.eq_iff_iff, beq_iff_eq, beq_iff_eq]
  exact (same_block (sz_pos b) (prefB_iff.1 h).2.2.2).symm
theorem wrap_div {x s : Int} (h0 : 0 ≤ x) (h1 : x ≤ 4294967295) (hs : 0 < s) : IntKind.i64.wrap (x.tdiv s) = x / s := by
  rw [Int.tdiv_eq_ediv_of_nonneg h0]
  have h2 : 0 ≤ x / s := Int.ediv_nonneg h0 (by omega)
  have h3 : x / s ≤ x := Int.ediv_le_self s h0
  exact wrap_i64' _ h2 (by omega)

set_option maxHeartbeats 1000000 in
theorem has_yes (a b x : Int) (w : World) (hp : prefB a b = true) (hx : adrB x = true) :
    Calls Try.prog 7 #[.agg #[.int .i64 a, .int .i64 b], .int .i64 x] w fun e w' => e = .returned (.bool (hasB a b x)) ∧ Below w.heap.size w w' := by
  have hxb := adrB_iff.1 hx
  obtain ⟨h0, h1, ha, hm⟩ := prefB_iff.1 hp
  have HP := hide (hasB_impl hp hx)
  have HP1 := hide hp
  have heq := eqPref (x - x % sz b) b a b
  clear ha hm hp
  go_enter Try.func7, Try.ntmps7
  go_wp2_with fail
  obtain ⟨hbW, hc0, hc1⟩ := box_facts w (.int .i64 a) (.int .i64 b) 24
  generalize w.alloc (.cells #[.int .i64 a, .int .i64 b] 24) = W at *
  have k0 := cell_regrown hc0
  have k1 := cell_regrown hc1
  clear hc0 hc1
  have cP : ∀ d os, Calls Try.prog 18 #[.agg #[.int .i64 a, .int .i64 b]] (Go.Sort.grow (redrawn W d) os) fun e w'' => e = .returned (.bool true) ∧ ∃ p : Regrown, w'' = Go.Sort.grow (redrawn W p.d) p.os := fun d os => Calls.regrown_of (by have h := valid_walk a b (Go.Sort.grow (redrawn W d) os); rw [HP1.out] at h; exact h)
  have cA : ∀ d os, Calls Try.prog 19 #[.int .i64 x] (Go.Sort.grow (redrawn W d) os) fun e w'' => e = .returned (.bool true) ∧ ∃ p : Regrown, w'' = Go.Sort.grow (redrawn W p.d) p.os := fun d os => Calls.regrown_of (by have h := isAddr_walk x (Go.Sort.grow (redrawn W d) os); rw [hx] at h; exact h.mono (fun e w1 hh => ⟨hh.1, hh.2 ▸ Below.refl _ _⟩))
  have cR : ∀ d os, Calls Try.prog 20 #[.int .i64 x, .int .i64 b] (Go.Sort.grow (redrawn W d) os) fun e w'' => e = .returned (.agg #[.int .i64 (x - x % sz b), .int .i64 b]) ∧ ∃ p : Regrown, w'' = Go.Sort.grow (redrawn W p.d) p.os := fun d os => Calls.regrown_of (by exact around_walk x b hxb.1 hxb.2 h0 h1 (Go.Sort.grow (redrawn W d) os))
  refine wp_region_quiet_below (by kernel_rfl) (by kernel_rfl) ?_
  repeat (first | go_big_quiet_step ((first | (go_at_call 18; exact cP _ _) | (go_at_call 19; exact cA _ _) | (go_at_call 20; exact cR _ _))) | quiet_step ((first | (go_at_call 18; exact cP _ _) | (go_at_call 19; exact cA _ _) | (go_at_call 20; exact cR _ _))))
  refine wpQuiet_nil ?_
  intro _ hw'
  obtain ⟨⟨dq, osq⟩, hw''⟩ := hw'
  subst hw''
  go_wp2
  go_ret
  exact ⟨ret_bool HP.out.symm, below_then hbW dq osq⟩
set_option maxHeartbeats 1000000 in
theorem has_pref (a b x : Int) (w : World) (hp : prefB a b = false) :
    Calls Try.prog 7 #[.agg #[.int .i64 a, .int .i64 b], .int .i64 x] w fun e w' => e = .returned (.bool (hasB a b x)) ∧ Below w.heap.size w w' := by
  have HP := hide (hasB_no (x := x) hp)
  have HP1 := hide hp
  clear hp
  go_enter Try.func7, Try.ntmps7
  go_wp2_with fail
  obtain ⟨hbW, hc0, hc1⟩ := box_facts w (.int .i64 a) (.int .i64 b) 24
  generalize w.alloc (.cells #[.int .i64 a, .int .i64 b] 24) = W at *
  have k0 := cell_regrown hc0
  have k1 := cell_regrown hc1
  clear hc0 hc1
  have cP : ∀ d os, Calls Try.prog 18 #[.agg #[.int .i64 a, .int .i64 b]] (Go.Sort.grow (redrawn W d) os) fun e w'' => e = .returned (.bool false) ∧ ∃ p : Regrown, w'' = Go.Sort.grow (redrawn W p.d) p.os := fun d os => Calls.regrown_of (by have h := valid_walk a b (Go.Sort.grow (redrawn W d) os); rw [HP1.out] at h; exact h)
  refine wp_region_quiet_below (by kernel_rfl) (by kernel_rfl) ?_
  repeat (first | go_big_quiet_step ((go_at_call 18; exact cP _ _)) | quiet_step ((go_at_call 18; exact cP _ _)))
  refine wpQuiet_nil ?_
  intro _ hw'
  obtain ⟨⟨dq, osq⟩, hw''⟩ := hw'
  subst hw''
  go_wp2
  go_ret
  exact ⟨ret_bool HP.out.symm, below_then hbW dq osq⟩
set_option maxHeartbeats 1000000 in
theorem has_adr (a b x : Int) (w : World) (hp : prefB a b = true) (hx : adrB x = false) :
    Calls Try.prog 7 #[.agg #[.int .i64 a, .int .i64 b], .int .i64 x] w fun e w' => e = .returned (.bool (hasB a b x)) ∧ Below w.heap.size w w' := by
  have HP := hide (hasB_adr (a := a) (b := b) hx)
  have HP1 := hide hp
  clear hp
  go_enter Try.func7, Try.ntmps7
  go_wp2_with fail
  obtain ⟨hbW, hc0, hc1⟩ := box_facts w (.int .i64 a) (.int .i64 b) 24
  generalize w.alloc (.cells #[.int .i64 a, .int .i64 b] 24) = W at *
  have k0 := cell_regrown hc0
  have k1 := cell_regrown hc1
  clear hc0 hc1
  have cP : ∀ d os, Calls Try.prog 18 #[.agg #[.int .i64 a, .int .i64 b]] (Go.Sort.grow (redrawn W d) os) fun e w'' => e = .returned (.bool true) ∧ ∃ p : Regrown, w'' = Go.Sort.grow (redrawn W p.d) p.os := fun d os => Calls.regrown_of (by have h := valid_walk a b (Go.Sort.grow (redrawn W d) os); rw [HP1.out] at h; exact h)
  have cA : ∀ d os, Calls Try.prog 19 #[.int .i64 x] (Go.Sort.grow (redrawn W d) os) fun e w'' => e = .returned (.bool false) ∧ ∃ p : Regrown, w'' = Go.Sort.grow (redrawn W p.d) p.os := fun d os => Calls.regrown_of (by have h := isAddr_walk x (Go.Sort.grow (redrawn W d) os); rw [hx] at h; exact h.mono (fun e w1 hh => ⟨hh.1, hh.2 ▸ Below.refl _ _⟩))
  refine wp_region_quiet_below (by kernel_rfl) (by kernel_rfl) ?_
  repeat (first | go_big_quiet_step ((first | (go_at_call 18; exact cP _ _) | (go_at_call 19; exact cA _ _))) | quiet_step ((first | (go_at_call 18; exact cP _ _) | (go_at_call 19; exact cA _ _))))
  refine wpQuiet_nil ?_
  intro _ hw'
  obtain ⟨⟨dq, osq⟩, hw''⟩ := hw'
  subst hw''
  go_wp2
  go_ret
  exact ⟨ret_bool HP.out.symm, below_then hbW dq osq⟩
theorem has_walk (a b x : Int) (w : World) :
    Calls Try.prog 7 #[.agg #[.int .i64 a, .int .i64 b], .int .i64 x] w fun e w' => e = .returned (.bool (hasB a b x)) ∧ Below w.heap.size w w' := by
  by_cases hp : prefB a b = true
  · by_cases hx : adrB x = true
    · exact has_yes a b x w hp hx
    · exact has_adr a b x w hp (by simpa using hx)
  · exact has_pref a b x w (by simpa using hp)

/-- The last address of a prefix; -1 if it is not valid. -/
def lastOf (a b : Int) : Int := if prefB a b = true then a + sz b - 1 else -1
theorem or_low (x m : Nat) (hx : x < 2 ^ 62) (hm : m ≤ 32) (h : x % 2 ^ m = 0) : bits .or .i64 (x : Int) ((2 ^ m - 1 : Nat) : Int) = ((x + (2 ^ m - 1) : Nat) : Int) := by
  have hp : 2 ^ m ≤ 2 ^ 32 := Nat.pow_le_pow_right (by decide) hm
  have hpos : 0 < 2 ^ m := Nat.two_pow_pos m
  have hlt : (2 ^ m - 1 : Nat) < 2 ^ 62 := by omega
  have hlt' : (((2 ^ m - 1 : Nat) : Nat) : Int) < 2 ^ 62 := by exact_mod_cast hlt
  have hj := bits_join .i64 62 (by decide) (fun n h0 h1 => wrap_i64' n h0 (by have : n < 2 ^ 62 := h1; omega)) m (x : Int) ((2 ^ m - 1 : Nat) : Int) (Int.natCast_nonneg _) (by exact_mod_cast h) (by exact_mod_cast hx) (Int.natCast_nonneg _) (by rw [Int.natCast_sub hpos]; simp; omega) hlt'
  rw [hj]; simp
theorem or_sz (a b : Int) (h0 : 0 ≤ a) (h1 : a ≤ 4294967295) (hm : a % sz b = 0) : bits .or .i64 a (sz b - 1) = a + sz b - 1 := by
  obtain ⟨n, rfl⟩ := Int.eq_ofNat_of_zero_le h0
  have hpos : 0 < 2 ^ (32 - b.toNat) := Nat.two_pow_pos _
  have e : sz b - 1 = ((2 ^ (32 - b.toNat) - 1 : Nat) : Int) := by
    unfold sz; rw [Int.natCast_sub hpos]; simp
  have hm' : n % 2 ^ (32 - b.toNat) = 0 := by
    unfold sz at hm; exact_mod_cast hm
  rw [e, or_low n (32 - b.toNat) (by omega) (by omega) hm', Int.natCast_add, ← e]
  omega
theorem lastOf_yes {a b : Int} (h : prefB a b = true) : lastOf a b = a + sz b - 1 := by unfold lastOf; rw [if_pos h]
theorem lastOf_no {a b : Int} (h : prefB a b = false) : lastOf a b = -1 := by unfold lastOf; rw [if_neg (by simp [h])]

set_option maxHeartbeats 1000000 in
theorem specLast_no (a b : Int) (w : World) (hp : prefB a b = false) :
    Calls Try.prog 9 #[.agg #[.int .i64 a, .int .i64 b]] w fun e w' => e = .returned (.int .i64 (lastOf a b)) ∧ Below w.heap.size w w' := by
  have HP := hide (lastOf_no hp)
  go_enter Try.func9, Try.ntmps9
  go_wp2_with fail
  obtain ⟨hbW, hc0, hc1⟩ := box_facts w (.int .i64 a) (.int .i64 b) 24
  generalize w.alloc (.cells #[.int .i64 a, .int .i64 b] 24) = W at *
  refine (specPrefixOK_walk a b _).mono ?_
  rw [hp]
  rintro e w1 ⟨rfl, hb1⟩
  go_wp2
  go_ret
  exact ⟨ret_int HP.out.symm, hbW.trans (hb1.mono hbW.size)⟩
set_option maxHeartbeats 1000000 in
theorem specLast_yes (a b : Int) (w : World) (hp : prefB a b = true) :
    Calls Try.prog 9 #[.agg #[.int .i64 a, .int .i64 b]] w fun e w' => e = .returned (.int .i64 (lastOf a b)) ∧ Below w.heap.size w w' := by
  have HP := hide (lastOf_yes hp)
  obtain ⟨h0, h1, ha, hm⟩ := prefB_iff.1 hp
  have hab := adrB_iff.1 ha
  have hsz := sz_pos b
  have hsl := sz_le b
  clear ha hm
  go_enter Try.func9, Try.ntmps9
  go_wp2_with fail
  obtain ⟨hbW, hc0, hc1⟩ := box_facts w (.int .i64 a) (.int .i64 b) 24
  have hsW : w.heap.size < (w.alloc (.cells #[.int .i64 a, .int .i64 b] 24)).heap.size := by rw [World.size_alloc]; omega
  generalize w.alloc (.cells #[.int .i64 a, .int .i64 b] 24) = W at *
  refine (specPrefixOK_walk a b _).mono ?_
  rw [hp]
  rintro e w1 ⟨rfl, hb1⟩
  have g0 : w1.cell? ⟨w.heap.size, 0, none⟩ = some (.int .i64 a) := by rw [hb1.cell (p := ⟨w.heap.size, 0, none⟩) hsW]; exact hc0
  have g1 : w1.cell? ⟨w.heap.size, 1, none⟩ = some (.int .i64 b) := by rw [hb1.cell (p := ⟨w.heap.size, 1, none⟩) hsW]; exact hc1
  clear hc0 hc1 hp
  go_wp2_with fail
  go_quiet ((go_at_call 22; refine Calls.quiet_of_same (size_walk _ h0 h1 _)))
  go_wp2
  go_ret
  exact ⟨ret_int (by rw [HP.out]), below_drewN (hbW.trans (hb1.mono hbW.size)) nq⟩
theorem specLast_walk (a b : Int) (w : World) :
    Calls Try.prog 9 #[.agg #[.int .i64 a, .int .i64 b]] w fun e w' => e = .returned (.int .i64 (lastOf a b)) ∧ Below w.heap.size w w' := by
  by_cases hp : prefB a b = true
  · exact specLast_yes a b w hp
  · exact specLast_no a b w (by simpa using hp)

set_option maxHeartbeats 1000000 in
theorem last_no (a b : Int) (w : World) (hp : prefB a b = false) :
    Calls Try.prog 8 #[.agg #[.int .i64 a, .int .i64 b]] w fun e w' => e = .returned (.int .i64 (lastOf a b)) ∧ Below w.heap.size w w' := by
  have HP := hide (lastOf_no hp)
  go_enter Try.func8, Try.ntmps8
  go_wp2_with fail
  obtain ⟨hbW, hc0, hc1⟩ := box_facts w (.int .i64 a) (.int .i64 b) 24
  generalize w.alloc (.cells #[.int .i64 a, .int .i64 b] 24) = W at *
  refine (valid_walk a b _).mono ?_
  rw [hp]
  rintro e w1 ⟨rfl, hb1⟩
  go_wp2
  go_ret
  exact ⟨ret_int HP.out.symm, hbW.trans (hb1.mono hbW.size)⟩
set_option maxHeartbeats 1000000 in
theorem last_yes (a b : Int) (w : World) (hp : prefB a b = true) :
    Calls Try.prog 8 #[.agg #[.int .i64 a, .int .i64 b]] w fun e w' => e = .returned (.int .i64 (lastOf a b)) ∧ Below w.heap.size w w' := by
  have HP := hide (lastOf_yes hp)
  obtain ⟨h0, h1, ha, hm⟩ := prefB_iff.1 hp
  have hab := adrB_iff.1 ha
  have hsz := sz_pos b
  have hsl := sz_le b
  have hor := or_sz a b hab.1 hab.2 hm
  clear ha hm
  go_enter Try.func8, Try.ntmps8
  go_wp2_with fail
  obtain ⟨hbW, hc0, hc1⟩ := box_facts w (.int .i64 a) (.int .i64 b) 24
  have hsW : w.heap.size < (w.alloc (.cells #[.int .i64 a, .int .i64 b] 24)).heap.size := by rw [World.size_alloc]; omega
  generalize w.alloc (.cells #[.int .i64 a, .int .i64 b] 24) = W at *
  refine (valid_walk a b _).mono ?_
  rw [hp]
  rintro e w1 ⟨rfl, hb1⟩
  have g0 : w1.cell? ⟨w.heap.size, 0, none⟩ = some (.int .i64 a) := by rw [hb1.cell (p := ⟨w.heap.size, 0, none⟩) hsW]; exact hc0
  have g1 : w1.cell? ⟨w.heap.size, 1, none⟩ = some (.int .i64 b) := by rw [hb1.cell (p := ⟨w.heap.size, 1, none⟩) hsW]; exact hc1
  clear hc0 hc1 hp
  go_wp2_with fail
  go_quiet ((go_at_call 21; refine Calls.quiet_of_same (hostPart_walk _ h0 h1 _)))
  go_wp2
  go_ret
  exact ⟨ret_int (by rw [HP.out]), below_drewN (hbW.trans (hb1.mono hbW.size)) nq⟩
theorem last_walk (a b : Int) (w : World) :
    Calls Try.prog 8 #[.agg #[.int .i64 a, .int .i64 b]] w fun e w' => e = .returned (.int .i64 (lastOf a b)) ∧ Below w.heap.size w w' := by
  by_cases hp : prefB a b = true
  · exact last_yes a b w hp
  · exact last_no a b w (by simpa using hp)

theorem bcell {W w1 : World} (hb : Below W.heap.size W w1) : (∀ b o, b < W.heap.size → w1.cell? ⟨b, o, none⟩ = W.cell? ⟨b, o, none⟩) ∧ (∀ b o, b < W.heap.size → w1.frozen? ⟨b, o, none⟩ = W.frozen? ⟨b, o, none⟩) :=
  ⟨fun b o h => hb.cell (p := ⟨b, o, none⟩) h, fun b o h => hb.frozen (p := ⟨b, o, none⟩) h⟩
/-- The digit's byte. -/
def dg (n : Int) : UInt8 := UInt8.ofNat (48 + n.toNat)
theorem conv1 (n : Int) (h0 : 0 ≤ n) (h1 : n < 10) (g : Nat) (w : World) (hc : w.cell? ⟨g, 0, none⟩ = some (.int .u8 (48 + n))) :
    (convert 22 9 (.slice (some ⟨g, 0, none⟩) 1 1)).run Try.prog w = .ok (.string ⟨#[dg n]⟩) w := by
  have h := run_convert_bytes_back (P := Try.prog) w 22 9 5 ⟨g, 0, none⟩ 1 [dg n] Try.underlying22 Try.underlying5 Try.underlying9 (by
    intro j hj
    match j, hj with
    | 0, _ =>
      rw [Addr.add_zero', hc]
      congr 2
      show 48 + n = ((UInt8.ofNat (48 + n.toNat)).toNat : Int)
      rw [UInt8.toNat_ofNat']
      omega)
  exact h
theorem dec_small (n : Int) (w : World) (h0 : 0 ≤ n) (h1 : n < 10) :
    Calls Try.prog 17 #[.int .i64 n] w fun e w' => e = .returned (.string ⟨#[dg n]⟩) ∧ Below w.heap.size w w' := by
  have hconv := conv1 n h0 h1
  go_enter Try.func17, Try.ntmps17
  go_wp2
  go_ret
  exact ⟨rfl, (Below.refl _ _).alloc (Nat.le_refl _) _⟩
/-- The text of a number below 1000. -/
def decL (n : Int) : Array UInt8 :=
  if n < 10 then #[dg n] else if n < 100 then #[dg (n / 10), dg (n % 10)] else #[dg (n / 100), dg (n / 10 % 10), dg (n % 10)]
theorem decL_one {n : Int} (h : n < 10) : decL n = #[dg n] := by unfold decL; rw [if_pos h]
theorem decL_more {n : Int} (h0 : 10 ≤ n) (h : n < 1000) : (⟨decL (n / 10)⟩ : ByteArray) ++ (⟨#[dg (n % 10)]⟩ : ByteArray) = ⟨decL n⟩ := by
  unfold decL
  by_cases h1 : n < 100
  · rw [if_pos (by omega), if_neg (by omega), if_pos h1]; rfl
  · rw [if_neg (by omega), if_pos (by omega), if_neg (by omega), if_neg h1]
    rw [show n / 10 / 10 = n / 100 by omega]; rfl
theorem decL_size {n : Int} : (⟨decL n⟩ : ByteArray).size ≤ 3 := by
  unfold decL
  split
  · show 1 ≤ 3; decide
  · split
    · show 2 ≤ 3; decide
    · show 3 ≤ 3; decide
set_option maxHeartbeats 400000 in
theorem dec_step (n : Int) (w : World) (t r : ByteArray) (ht : t.size ≤ 3) (h0 : 10 ≤ n) (h1 : n < 1000) (ih : ∀ w, Calls Try.prog 17 #[.int .i64 (n / 10)] w fun e w' => e = .returned (.string t) ∧ Below w.heap.size w w') (hr : t ++ (⟨#[dg (n % 10)]⟩ : ByteArray) = r) :
    Calls Try.prog 17 #[.int .i64 n] w fun e w' => e = .returned (.string r) ∧ Below w.heap.size w w' := by
  have hconv := conv1 (n % 10) (by omega) (by omega)
  have hd : (⟨#[dg (n % 10)]⟩ : ByteArray).size = 1 := rfl
  generalize (⟨#[dg (n % 10)]⟩ : ByteArray) = d at *
  have hds : d.size ≤ 1 := by omega
  have e1 : IntKind.i64.wrap (n.tdiv 10) = n / 10 := by rw [Int.tdiv_eq_ediv_of_nonneg (by omega)]; exact wrap_i64' _ (by omega) (by omega)
  have e2 : n.tmod 10 = n % 10 := Int.tmod_eq_emod_of_nonneg (by omega)
  have e3 : IntKind.i64.wrap (48 + n % 10) = 48 + n % 10 := wrap_i64' _ (by omega) (by omega)
  have e4 : IntKind.u8.wrap (48 + n % 10) = 48 + n % 10 := by rw [IntKind.wrap_u8]; omega
  have IH := hide ih
  have HR := hide hr
  clear ih hr hd
  go_enter Try.func17, Try.ntmps17
  go_wp2_with fail
  go_region_with (first | (go_at_call 17; refine (IH.out _).mono ?_; rintro e w' ⟨rfl, hbel⟩; obtain ⟨hcc, hff⟩ := bcell hbel))
  all_goals
    go_wp2
    go_ret
    refine ⟨by rw [← HR.out]; rfl, ?_⟩
    first
      | exact Below.alloc (w := w') (show Below w.heap.size w w' from below_undrew hbel) hbel.size _
      | exact Below.trans ((Below.refl w.heap.size w).alloc (Nat.le_refl _) (.cells #[.int .u8 (48 + n % 10)] 5)) ((show Below (w.alloc (.cells #[.int .u8 (48 + n % 10)] 5)).heap.size (w.alloc (.cells #[.int .u8 (48 + n % 10)] 5)) w' from below_undrew hbel).mono (by rw [World.size_alloc]; omega))
theorem dec_walk (n : Int) (w : World) (h0 : 0 ≤ n) (h1 : n < 1000) :
    Calls Try.prog 17 #[.int .i64 n] w fun e w' => e = .returned (.string ⟨decL n⟩) ∧ Below w.heap.size w w' := by
  have one : ∀ (n : Int) (w : World), 0 ≤ n → n < 10 → Calls Try.prog 17 #[.int .i64 n] w fun e w' => e = .returned (.string ⟨decL n⟩) ∧ Below w.heap.size w w' := fun n w a b => by
    have h := dec_small n w a b
    rw [← decL_one b] at h; exact h
  have two : ∀ (n : Int) (w : World), 0 ≤ n → n < 100 → Calls Try.prog 17 #[.int .i64 n] w fun e w' => e = .returned (.string ⟨decL n⟩) ∧ Below w.heap.size w w' := fun n w a b => by
    by_cases h : n < 10
    · exact one n w a h
    · exact dec_step n w ⟨decL (n / 10)⟩ ⟨decL n⟩ decL_size (by omega) (by omega) (fun w => one (n / 10) w (by omega) (by omega)) (decL_more (by omega) (by omega))
  by_cases h : n < 10
  · exact one n w h0 h
  · exact dec_step n w ⟨decL (n / 10)⟩ ⟨decL n⟩ decL_size (by omega) h1 (fun w => two (n / 10) w (by omega) (by omega)) (decL_more (by omega) h1)
end Go.Proofs.Ytmgjagajcmeikaj
