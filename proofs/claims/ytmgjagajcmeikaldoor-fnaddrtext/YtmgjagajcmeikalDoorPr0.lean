/-
Contracts of functions of this seat.
-/
import Derived.Test.YtmgjagajcmeikalDoorRows
import Derived.WalkKit
import Derived.ProofKit
import Derived.OpenShut
import Derived.Test.YtmgjagajcmeikalDoorNum
import Derived.Deep.QuietTactic
import Derived.BigQuiet
import Derived.Deep.RegionHeld3
import Derived.RegionTactic
import Derived.Deep.RegionWith
import Derived.Lib.QuietBelow
namespace Go.Proofs.YtmgjagajcmeikalDoor
open Go.ChangeShapes Go.WideShapes Go.ChangeAt Go.RowKit
set_option linter.unusedVariables false
theorem In_yes (n a b : Int) (w : World) (h : a ≤ n ∧ n ≤ b) :
    Calls Tryd.prog 42 #[.int .i64 n, .int .i64 a, .int .i64 b] w fun e w' => e = .returned (.bool true) ∧ w' = w := by
  obtain ⟨h1, h2⟩ := h
  go_enter Tryd.func42, Tryd.ntmps42
  go_wp2
  go_ret
  exact ⟨rfl, rfl⟩
theorem In_no (n a b : Int) (w : World) (h : ¬ (a ≤ n ∧ n ≤ b)) :
    Calls Tryd.prog 42 #[.int .i64 n, .int .i64 a, .int .i64 b] w fun e w' => e = .returned (.bool false) ∧ w' = w := by
  by_cases h1 : a ≤ n
  · have h2 : ¬ n ≤ b := fun h2 => h ⟨h1, h2⟩
    clear h
    go_enter Tryd.func42, Tryd.ntmps42
    go_wp2
    go_ret
    exact ⟨rfl, rfl⟩
  · clear h
    go_enter Tryd.func42, Tryd.ntmps42
    go_wp2
    go_ret
    exact ⟨rfl, rfl⟩

/-- It is an address. -/
def adrB (a : Int) : Bool := decide (0 ≤ a ∧ a ≤ 4294967295)
theorem adrB_iff {a : Int} : adrB a = true ↔ 0 ≤ a ∧ a ≤ 4294967295 := by unfold adrB; simp

theorem specAddrOK_walk (a : Int) (w : World) :
    Calls Tryd.prog 41 #[.int .i64 a] w fun e w' => e = .returned (.bool (adrB a)) ∧ w' = w := by
  by_cases h : 0 ≤ a ∧ a ≤ 4294967295
  · have e := hide (adrB_iff.2 h)
    go_enter Tryd.func41, Tryd.ntmps41
    go_wp2_with (go_at_call 42; refine (In_yes _ _ _ _ h).mono ?_; rintro e w' ⟨rfl, rfl⟩)
    go_ret
    exact ⟨ret_bool e.out.symm, rfl⟩
  · have e : Hid (adrB a = false) := hide (by unfold adrB; simpa using h)
    go_enter Tryd.func41, Tryd.ntmps41
    go_wp2_with (go_at_call 42; refine (In_no _ _ _ _ h).mono ?_; rintro e w' ⟨rfl, rfl⟩)
    go_ret
    exact ⟨ret_bool e.out.symm, rfl⟩

theorem isAddr_walk (a : Int) (w : World) :
    Calls Tryd.prog 14 #[.int .i64 a] w fun e w' => e = .returned (.bool (adrB a)) ∧ w' = w := by
  by_cases h1 : 0 ≤ a
  · by_cases h2 : a ≤ 4294967295
    · have e := hide (adrB_iff.2 ⟨h1, h2⟩)
      go_enter Tryd.func14, Tryd.ntmps14
      go_wp2
      go_ret
      exact ⟨ret_bool e.out.symm, rfl⟩
    · have e : Hid (adrB a = false) := hide (by unfold adrB; simp; omega)
      go_enter Tryd.func14, Tryd.ntmps14
      go_wp2
      go_ret
      exact ⟨ret_bool e.out.symm, rfl⟩
  · have e : Hid (adrB a = false) := hide (by unfold adrB; simp; omega)
    go_enter Tryd.func14, Tryd.ntmps14
    go_wp2
    go_ret
    exact ⟨ret_bool e.out.symm, rfl⟩

/-- How many addresses a prefix of b bits has. -/
def sz (b : Int) : Int := 2 ^ (32 - b.toNat)
theorem sz_pos (b : Int) : 0 < sz b := by unfold sz; exact Int.pow_pos (by decide)
theorem sz_le (b : Int) : sz b ≤ 4294967296 := by
  unfold sz
  have h : 2 ^ (32 - b.toNat) ≤ 2 ^ 32 := Nat.pow_le_pow_right (by decide) (by omega)
  have : ((2 ^ (32 - b.toNat) : Nat) : Int) ≤ ((2 ^ 32 : Nat) : Int) := by exact_mod_cast h
  simpa using this
theorem host_fin : ∀ n : Fin 33, (4294967295 : Int) / 2 ^ n.val = 2 ^ (32 - n.val) - 1 := by decide
theorem host_eq (b : Int) (h0 : 0 ≤ b) (h1 : b ≤ 32) : (4294967295 : Int) / 2 ^ b.toNat = sz b - 1 := by
  have := host_fin ⟨b.toNat, by omega⟩
  exact this
theorem sz_step (b : Int) (h0 : 0 ≤ b) (h1 : b < 32) : sz b = sz (b + 1) * 2 := by
  unfold sz
  rw [show (32 - b.toNat) = (32 - (b + 1).toNat) + 1 by omega, Int.pow_succ]
theorem sz_32 (b : Int) (h : 32 ≤ b) : sz b = 1 := by unfold sz; rw [show 32 - b.toNat = 0 by omega]; rfl
/-- A prefix is valid. -/
def prefB (a b : Int) : Bool := decide (0 ≤ b) && decide (b ≤ 32) && adrB a && (a % sz b == 0)
/-- An address is in a prefix. -/
def hasB (a b x : Int) : Bool := prefB a b && adrB x && (x / sz b == a / sz b)
theorem prefB_true {a b : Int} (h0 : 0 ≤ b) (h1 : b ≤ 32) (h2 : adrB a = true) : prefB a b = (a % sz b == 0) := by unfold prefB; simp [h0, h1, h2]
theorem prefB_neg {a b : Int} (h0 : ¬ 0 ≤ b) : prefB a b = false := by unfold prefB; simp [h0]
theorem prefB_big {a b : Int} (h0 : ¬ b ≤ 32) : prefB a b = false := by unfold prefB; simp [h0]
theorem prefB_adr {a b : Int} (h0 : adrB a = false) : prefB a b = false := by unfold prefB; simp [h0]
theorem prefB_iff {a b : Int} : prefB a b = true ↔ 0 ≤ b ∧ b ≤ 32 ∧ adrB a = true ∧ a % sz b = 0 := by unfold prefB; simp [and_assoc]
/-- 'x &^ (2^m - 1)': the bits behind are 0. -/
theorem andNot_low (x m : Nat) (hx : x < 2 ^ 63) (hm : m ≤ 32) : bits .andNot .i64 (x : Int) ((2 ^ m - 1 : Nat) : Int) = ((x - x % 2 ^ m : Nat) : Int) := by
  have hp : 2 ^ m ≤ 2 ^ 32 := Nat.pow_le_pow_right (by decide) hm
  have hpos : 0 < 2 ^ m := Nat.two_pow_pos m
  have key : BitVec.ofNat 64 x &&& ~~~ (BitVec.ofNat 64 (2 ^ m - 1)) = BitVec.ofNat 64 (x - x % 2 ^ m) := by
    have hd : x - x % 2 ^ m = (x / 2 ^ m) * 2 ^ m := by
      have := Nat.div_add_mod x (2 ^ m); rw [Nat.mul_comm] at this; omega
    apply BitVec.eq_of_getLsbD_eq
    intro i hi
    rw [hd, ← Nat.shiftRight_eq_div_pow, ← Nat.shiftLeft_eq]
    simp only [BitVec.getLsbD_and, BitVec.getLsbD_not, BitVec.getLsbD_ofNat, Nat.testBit_two_pow_sub_one, Nat.testBit_shiftLeft, Nat.testBit_shiftRight, hi, decide_true, Bool.true_and]
    by_cases him : m ≤ i
    · rw [show m + (i - m) = i by omega]; simp [him]
    · simp [him]; omega
  have hkey : (BitVec.ofInt 64 (x : Int) &&& ~~~ (BitVec.ofInt 64 ((2 ^ m - 1 : Nat) : Int))) = BitVec.ofNat 64 (x - x % 2 ^ m) := by
    rw [BitVec.ofInt_natCast, BitVec.ofInt_natCast]; exact key
  have hr : x - x % 2 ^ m < 2 ^ 63 := by omega
  unfold bits
  show IntKind.i64.wrap ((BitVec.ofInt 64 (x : Int) &&& ~~~ (BitVec.ofInt 64 ((2 ^ m - 1 : Nat) : Int))).toNat : Int) = _
  rw [hkey, BitVec.toNat_ofNat, Nat.mod_eq_of_lt (by omega)]
  exact wrap_i64' _ (Int.natCast_nonneg _) (by omega)
theorem andNot_sz (x b : Int) (h0 : 0 ≤ x) (h1 : x ≤ 4294967295) : bits .andNot .i64 x (sz b - 1) = x - x % sz b := by
  obtain ⟨n, rfl⟩ := Int.eq_ofNat_of_zero_le h0
  have h := andNot_low n (32 - b.toNat) (by omega) (by omega)
  have hpos : 0 < 2 ^ (32 - b.toNat) := Nat.two_pow_pos _
  have e : sz b - 1 = ((2 ^ (32 - b.toNat) - 1 : Nat) : Int) := by
    unfold sz; rw [Int.natCast_sub hpos]; simp
  rw [e, h]
  have hle : n % 2 ^ (32 - b.toNat) ≤ n := Nat.mod_le _ _
  rw [Int.natCast_sub hle]
  unfold sz
  simp
theorem same_block {a x s : Int} (hs : 0 < s) (ha : a % s = 0) : (x - x % s = a) ↔ (x / s = a / s) := by
  have e1 := Int.mul_ediv_add_emod x s
  have e2 := Int.mul_ediv_add_emod a s
  rw [ha] at e2
  constructor
  · intro h
    have h3 : s * (x / s) = s * (a / s) := by omega
    exact Int.eq_of_mul_eq_mul_left (by omega) h3
  · intro h
    rw [h] at e1
    omega

theorem size_walk (b : Int) (h0 : 0 ≤ b) (h1 : b ≤ 32) (w : World) :
    Calls Tryd.prog 40 #[.int .i64 b] w fun e w' => e = .returned (.int .i64 (sz b)) ∧ w' = w := by
  go_enter Tryd.func40, Tryd.ntmps40
  go_wp2_with fail
  go_loop [3, 4] (fun n t => ∃ i : Int, b ≤ i ∧ i ≤ 32 ∧ t = .int .i64 i ∧ ∃ m : Int, n = .int .i64 m ∧ 0 < m ∧ m ≤ 4294967296 ∧ Hid (m * sz i = sz b)) (fun _ t => (32 - intOf t).toNat)
  case atStart => exact ⟨b, Int.le_refl _, h1, rfl, 1, rfl, by decide, by decide, hide (by omega)⟩
  case round =>
    obtain ⟨i, hi1, hi2, rfl, m, rfl, hm0, hm1, HM⟩ := hrel
    by_cases hlt : i < 32
    · have HS := hide (sz_step i (by omega) hlt)
      have hp := sz_pos (i + 1)
      have hle := sz_le b
      have hm2 : m * 2 ≤ 4294967296 := by
        have e : m * 2 * sz (i + 1) = sz b := by rw [← HM.out, HS.out, Int.mul_assoc, Int.mul_comm 2]
        have : m * 2 * 1 ≤ m * 2 * sz (i + 1) := Int.mul_le_mul_of_nonneg_left (by omega) (by omega)
        omega
      have HE : Hid (m * 2 * sz (i + 1) = sz b) := hide (by rw [← HM.out, HS.out, Int.mul_assoc, Int.mul_comm 2])
      clear hle hp
      go_wp2
      go_round
      case rel => exact ⟨i + 1, by omega, by omega, by go_num, m * 2, by go_num, by omega, hm2, HE⟩
      case measure => simp [intOf]; omega
    · have HE : Hid (m = sz b) := hide (by rw [← HM.out, sz_32 i (by omega)]; omega)
      go_wp2
      go_ret
      exact ⟨ret_int HE.out, rfl⟩
set_option maxHeartbeats 1000000 in
theorem specOK_yes (a b : Int) (w : World) (ha : adrB a = true) (hb : 0 ≤ b ∧ b ≤ 32) :
    Calls Tryd.prog 30 #[.agg #[.int .i64 a, .int .i64 b]] w fun e w' => e = .returned (.bool (prefB a b)) ∧ Below w.heap.size w w' := by
  have hp := sz_pos b
  have hne : sz b ≠ 0 := by omega
  have hab := adrB_iff.1 ha
  have HP := hide (prefB_true hb.1 hb.2 ha)
  go_enter Tryd.func30, Tryd.ntmps30
  go_wp2_with fail
  go_quiet ((first
    | (go_at_call 41; refine Calls.quiet_of_same (specAddrOK_walk _ _))
    | (go_at_call 42; refine Calls.quiet_of_same (In_yes _ _ _ _ hb))
    | (go_at_call 40; refine Calls.quiet_of_same (size_walk _ hb.1 hb.2 _))))
  go_wp2
  go_ret
  exact ⟨ret_bool (by rw [HP.out, Int.tmod_eq_emod_of_nonneg hab.1]), below_drewN ((Below.refl _ _).alloc (Nat.le_refl _) _) nq⟩
set_option maxHeartbeats 1000000 in
theorem specOK_bits (a b : Int) (w : World) (ha : adrB a = true) (hb : ¬ (0 ≤ b ∧ b ≤ 32)) :
    Calls Tryd.prog 30 #[.agg #[.int .i64 a, .int .i64 b]] w fun e w' => e = .returned (.bool (prefB a b)) ∧ Below w.heap.size w w' := by
  have HP : Hid (prefB a b = false) := hide (by
    by_cases h0 : 0 ≤ b
    · exact prefB_big (fun h1 => hb ⟨h0, h1⟩)
    · exact prefB_neg h0)
  have HB := hide hb
  clear hb
  go_enter Tryd.func30, Tryd.ntmps30
  go_wp2_with fail
  go_quiet ((first
    | (go_at_call 41; refine Calls.quiet_of_same (specAddrOK_walk _ _))
    | (go_at_call 42; refine Calls.quiet_of_same (In_no _ _ _ _ HB.out))))
  go_wp2
  go_ret
  exact ⟨ret_bool HP.out.symm, below_drewN ((Below.refl _ _).alloc (Nat.le_refl _) _) nq⟩
set_option maxHeartbeats 1000000 in
theorem specOK_adr (a b : Int) (w : World) (ha : adrB a = false) :
    Calls Tryd.prog 30 #[.agg #[.int .i64 a, .int .i64 b]] w fun e w' => e = .returned (.bool (prefB a b)) ∧ Below w.heap.size w w' := by
  have HP : Hid (prefB a b = false) := hide (prefB_adr ha)
  go_enter Tryd.func30, Tryd.ntmps30
  go_wp2_with fail
  go_quiet ((go_at_call 41; refine Calls.quiet_of_same (specAddrOK_walk _ _)))
  go_wp2
  go_ret
  exact ⟨ret_bool HP.out.symm, below_drewN ((Below.refl _ _).alloc (Nat.le_refl _) _) nq⟩
theorem specPrefixOK_walk (a b : Int) (w : World) :
    Calls Tryd.prog 30 #[.agg #[.int .i64 a, .int .i64 b]] w fun e w' => e = .returned (.bool (prefB a b)) ∧ Below w.heap.size w w' := by
  by_cases ha : adrB a = true
  · by_cases hb : 0 ≤ b ∧ b ≤ 32
    · exact specOK_yes a b w ha hb
    · exact specOK_bits a b w ha hb
  · exact specOK_adr a b w (by simpa using ha)

theorem boxS_start (w : World) (x y : Value) (t : Nat) : Below w.heap.size w ((w.alloc (.cells #[x, y] t)).drew) ∧ w.heap.size < ((w.alloc (.cells #[x, y] t)).drew).heap.size ∧ ((w.alloc (.cells #[x, y] t)).drew).cell? ⟨w.heap.size, 0, none⟩ = some x ∧ ((w.alloc (.cells #[x, y] t)).drew).cell? ⟨w.heap.size, 1, none⟩ = some y := by
  refine ⟨((Below.refl _ _).alloc (Nat.le_refl _) _).drew, ?_, ?_, ?_⟩
  · show w.heap.size < (w.alloc _).heap.size
    rw [World.size_alloc]; omega
  · show (w.alloc _).cell? _ = _
    exact cell_of_row _ w.heap.size 0 #[x, y] t (0, 0) (heap_alloc_new w _)
  · show (w.alloc _).cell? _ = _
    exact cell_of_row _ w.heap.size 1 #[x, y] t (0, 0) (heap_alloc_new w _)
theorem boxS_below {w w1 w2 : World} {x y : Value} (h : Below w.heap.size w w1 ∧ w.heap.size < w1.heap.size ∧ w1.cell? ⟨w.heap.size, 0, none⟩ = some x ∧ w1.cell? ⟨w.heap.size, 1, none⟩ = some y) (hb : Below w1.heap.size w1 w2) :
    Below w.heap.size w w2 ∧ w.heap.size < w2.heap.size ∧ w2.cell? ⟨w.heap.size, 0, none⟩ = some x ∧ w2.cell? ⟨w.heap.size, 1, none⟩ = some y := by
  refine ⟨h.1.trans (hb.mono (by omega)), by have := hb.size; omega, ?_, ?_⟩
  · rw [hb.cell (p := ⟨w.heap.size, 0, none⟩) h.2.1]; exact h.2.2.1
  · rw [hb.cell (p := ⟨w.heap.size, 1, none⟩) h.2.1]; exact h.2.2.2

theorem eqPref (a b c d : Int) (w : World) : (Op.equalIn 10000 36 (.agg #[.int .i64 a, .int .i64 b]) (.agg #[.int .i64 c, .int .i64 d])).run Tryd.prog w = .ok (a == c && b == d) w := by
  have u3 := Tryd.underlying2
  have a3 := Tryd.isAgg2
  have z3 := Tryd.sizeOf2
  have hS : Tryd.prog.underlying 36 = some (.struct (Tryd.prog.fieldsOf 36)) := by kernel_rfl
  rw [show (10000 : Nat) = 9999 + 1 from rfl, run_equalIn_agg w 9999 36 _ _ hS (by kernel_rfl)]
  simp only [Program.fieldsOf, Tryd.underlying36]
  go_simp
  by_cases h1 : a = c <;> by_cases h2 : b = d <;> simp [h1, h2]
theorem hostPart_walk (b : Int) (h0 : 0 ≤ b) (h1 : b ≤ 32) (w : World) :
    Calls Tryd.prog 47 #[.int .i64 b] w fun e w' => e = .returned (.int .i64 (sz b - 1)) ∧ w' = w := by
  have HE := hide (host_eq b h0 h1)
  go_enter Tryd.func47, Tryd.ntmps47
  go_wp2
  go_ret
  exact ⟨ret_int (by rw [← HE.out]), rfl⟩
theorem around_walk (a b : Int) (ha : 0 ≤ a) (ha1 : a ≤ 4294967295) (h0 : 0 ≤ b) (h1 : b ≤ 32) (w : World) :
    Calls Tryd.prog 43 #[.int .i64 a, .int .i64 b] w fun e w' => e = .returned (.agg #[.int .i64 (a - a % sz b), .int .i64 b]) ∧ Below w.heap.size w w' := by
  have HE := andNot_sz a b ha ha1
  have hp := sz_pos b
  go_enter Tryd.func43, Tryd.ntmps43
  go_wp2_with (go_at_call 47; refine (hostPart_walk _ h0 h1 _).mono ?_; rintro e w' ⟨rfl, rfl⟩)
  exact bodyPost_ret (v := .agg #[.int .i64 (a - a % sz b), .int .i64 b]) (by simp [results, Tryd.results43, go_sem]) rfl ⟨rfl, (Below.refl _ _).alloc (Nat.le_refl _) _⟩
theorem prefB_eq {a b : Int} (h0 : 0 ≤ b) (h1 : b ≤ 32) (h2 : adrB a = true) : prefB a b = (a == a - a % sz b) := by
  rw [prefB_true h0 h1 h2, Bool.eq_iff_iff]; simp; omega
set_option maxHeartbeats 2000000 in
theorem valid_yes (a b : Int) (w : World) (h0 : 0 ≤ b) (h1 : b ≤ 32) (ha : adrB a = true) :
    Calls Tryd.prog 31 #[.agg #[.int .i64 a, .int .i64 b]] w fun e w' => e = .returned (.bool (prefB a b)) ∧ Below w.heap.size w w' := by
  have hab := adrB_iff.1 ha
  have HP := hide (prefB_eq h0 h1 ha)
  have heq := eqPref a b (a - a % sz b) b
  go_enter Tryd.func31, Tryd.ntmps31
  go_wp2_with fail
  go_region_held3 (fun w' => Below w.heap.size w w' ∧ w.heap.size < w'.heap.size ∧ w'.cell? ⟨w.heap.size, 0, none⟩ = some (.int .i64 a) ∧ w'.cell? ⟨w.heap.size, 1, none⟩ = some (.int .i64 b))
    (first | exact boxS_start w _ _ _ | assumption | exact boxS_below (by assumption) (by assumption))
    (first
      | (go_at_call 14; refine (isAddr_walk _ _).mono ?_; rintro e w' ⟨rfl, rfl⟩)
      | (go_at_call 43; refine (around_walk _ _ hab.1 hab.2 h0 h1 _).mono ?_; rintro e w' ⟨rfl, hbel⟩))
  go_wp2
  go_ret
  refine ⟨ret_bool HP.out.symm, ?_⟩
  rename_i hh
  exact hh.1
set_option maxHeartbeats 1000000 in
theorem valid_neg (a b : Int) (w : World) (h0 : ¬ 0 ≤ b) :
    Calls Tryd.prog 31 #[.agg #[.int .i64 a, .int .i64 b]] w fun e w' => e = .returned (.bool (prefB a b)) ∧ Below w.heap.size w w' := by
  have HP := hide (prefB_neg (a := a) h0)
  have hd : decide (0 ≤ b) = false := by simpa using h0
  clear h0
  go_enter Tryd.func31, Tryd.ntmps31
  go_wp2_with fail
  go_quiet (fail)
  go_wp2
  go_ret
  exact ⟨ret_bool HP.out.symm, below_drewN ((Below.refl _ _).alloc (Nat.le_refl _) _) nq⟩
set_option maxHeartbeats 1000000 in
theorem valid_big (a b : Int) (w : World) (h0 : 0 ≤ b) (h1 : ¬ b ≤ 32) :
    Calls Tryd.prog 31 #[.agg #[.int .i64 a, .int .i64 b]] w fun e w' => e = .returned (.bool (prefB a b)) ∧ Below w.heap.size w w' := by
  have HP := hide (prefB_big (a := a) h1)
  have hd : decide (b ≤ 32) = false := by simpa using h1
  clear h1
  go_enter Tryd.func31, Tryd.ntmps31
  go_wp2_with fail
  go_quiet (fail)
  go_wp2
  go_ret
  exact ⟨ret_bool HP.out.symm, below_drewN ((Below.refl _ _).alloc (Nat.le_refl _) _) nq⟩
set_option maxHeartbeats 1000000 in
theorem valid_adr (a b : Int) (w : World) (h0 : 0 ≤ b) (h1 : b ≤ 32) (ha : adrB a = false) :
    Calls Tryd.prog 31 #[.agg #[.int .i64 a, .int .i64 b]] w fun e w' => e = .returned (.bool (prefB a b)) ∧ Below w.heap.size w w' := by
  have HP := hide (prefB_adr (b := b) ha)
  go_enter Tryd.func31, Tryd.ntmps31
  go_wp2_with fail
  go_quiet ((go_at_call 14; refine Calls.quiet_of_same (isAddr_walk _ _)))
  go_wp2
  go_ret
  exact ⟨ret_bool HP.out.symm, below_drewN ((Below.refl _ _).alloc (Nat.le_refl _) _) nq⟩
theorem valid_walk (a b : Int) (w : World) :
    Calls Tryd.prog 31 #[.agg #[.int .i64 a, .int .i64 b]] w fun e w' => e = .returned (.bool (prefB a b)) ∧ Below w.heap.size w w' := by
  by_cases h0 : 0 ≤ b
  · by_cases h1 : b ≤ 32
    · by_cases ha : adrB a = true
      · exact valid_yes a b w h0 h1 ha
      · exact valid_adr a b w h0 h1 (by simpa using ha)
    · exact valid_big a b w h0 h1
  · exact valid_neg a b w h0

theorem box_facts (w : World) (x y : Value) (t : Nat) : Below w.heap.size w (w.alloc (.cells #[x, y] t)) ∧ (w.alloc (.cells #[x, y] t)).cell? ⟨w.heap.size, 0, none⟩ = some x ∧ (w.alloc (.cells #[x, y] t)).cell? ⟨w.heap.size, 1, none⟩ = some y := by
  refine ⟨(Below.refl _ _).alloc (Nat.le_refl _) _, ?_, ?_⟩
  · exact cell_of_row _ w.heap.size 0 #[x, y] t (0, 0) (heap_alloc_new w _)
  · exact cell_of_row _ w.heap.size 1 #[x, y] t (0, 0) (heap_alloc_new w _)
theorem below_then {w W : World} (h : Below w.heap.size w W) (d : Nat) (os : Array Obj) : Below w.heap.size w (Go.Sort.grow (redrawn W d) os) :=
  h.trans ((below_regrown W d os).mono h.size)

theorem pair_cells {w : World} {g t : Nat} {x y : Value} (h : w.heap[g]? = some (.cells #[x, y] t)) : w.cell? ⟨g, 0, none⟩ = some x ∧ w.cell? ⟨g, 1, none⟩ = some y ∧ ∀ o, w.frozen? ⟨g, o, none⟩ = false :=
  ⟨cell_of_row w g 0 _ _ _ h, cell_of_row w g 1 _ _ _ h, fun o => frozen_of_row w g o _ _ h⟩
end Go.Proofs.YtmgjagajcmeikalDoor
