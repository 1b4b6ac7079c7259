/-
Contracts of functions of this seat.
-/
import Derived.Test.YthoinddlnmailaaDoorRows
import Derived.WalkKit
import Derived.ProofKit
import Derived.OpenShut
import Derived.Test.YthoinddlnmailaaDoorFrb
namespace Go.Proofs.YthoinddlnmailaaDoor
open Go.ChangeShapes Go.WideShapes Go.ChangeAt Go.RowKit
set_option linter.unusedVariables false
set_option maxRecDepth 100000
/-- The four bytes of a number of 32 bits, turned round. -/
def rev32 (x : Int) : Int := x % 256 * 16777216 + x / 256 % 256 * 65536 + x / 65536 % 256 * 256 + x / 16777216 % 256
theorem wrap_u32' (n : Int) (h0 : 0 ≤ n) (h1 : n < 2 ^ 32) : IntKind.u32.wrap n = n := by rw [IntKind.wrap_u32]; omega
theorem or_shift (a b i : Nat) (h : b < 2 ^ i) : (a * 2 ^ i) ||| b = a * 2 ^ i + b := by
  have := Nat.two_pow_add_eq_or_of_lt h a
  rw [Nat.mul_comm] at this
  exact this.symm
theorem land_m3 (y : Nat) : y &&& 16711935 = y / 65536 % 256 * 65536 + y % 256 := by
  have e : (16711935 : Nat) = 255 * 2 ^ 16 ||| 255 := by decide
  have h1 : y &&& 255 = y % 256 := Nat.and_two_pow_sub_one_eq_mod y 8
  have h2 : y &&& 255 * 2 ^ 16 = y / 65536 % 256 * 2 ^ 16 := by
    have hz : y = y / 65536 * 2 ^ 16 ||| y % 65536 := by rw [or_shift _ _ _ (by omega)]; omega
    have hs : ∀ a b : Nat, (a * 2 ^ 16) &&& (b * 2 ^ 16) = (a &&& b) * 2 ^ 16 := by
      intro a b
      rw [← Nat.shiftLeft_eq, ← Nat.shiftLeft_eq, ← Nat.shiftLeft_eq, Nat.shiftLeft_and_distrib]
    have hlow : y % 65536 &&& 255 * 2 ^ 16 = 0 := by
      apply Nat.eq_of_testBit_eq
      intro i
      rw [Nat.testBit_and, Nat.zero_testBit]
      by_cases hi : i < 16
      · have : (255 * 2 ^ 16).testBit i = false := by
          rw [Nat.testBit_mul_two_pow]; simp; omega
        rw [this]; simp
      · have : (y % 65536).testBit i = false := by
          rw [show (65536 : Nat) = 2 ^ 16 by decide, Nat.testBit_mod_two_pow]; simp; omega
        rw [this]; simp
    have h3 : y / 65536 &&& 255 = y / 65536 % 256 := Nat.and_two_pow_sub_one_eq_mod (y / 65536) 8
    conv => lhs; rw [hz]
    rw [Nat.and_or_distrib_right, hs, hlow, Nat.or_zero, h3]
  rw [e, Nat.and_or_distrib_left, h1, h2, or_shift _ _ _ (by omega)]
theorem lor_mixed (a b c d : Nat) (ha : a < 256) (hb : b < 256) (hc : c < 256) (hd : d < 256) : (c * 65536 + a) ||| (d * 16777216 + b * 256) = d * 16777216 + c * 65536 + b * 256 + a := by
  have e1 : c * 65536 + a = c * 2 ^ 16 ||| a := (or_shift c a 16 (by omega)).symm
  have e2 : d * 16777216 + b * 256 = d * 2 ^ 24 ||| b * 2 ^ 8 := (or_shift d (b * 2 ^ 8) 24 (by omega)).symm
  have e3 : (c * 2 ^ 16 ||| a) ||| (d * 2 ^ 24 ||| b * 2 ^ 8) = d * 2 ^ 24 ||| (c * 2 ^ 16 ||| (b * 2 ^ 8 ||| a)) := by ac_rfl
  rw [e1, e2, e3, or_shift b a 8 (by omega), or_shift c (b * 2 ^ 8 + a) 16 (by omega), or_shift d (c * 2 ^ 16 + (b * 2 ^ 8 + a)) 24 (by omega)]
  clear e1 e2 e3
  omega
theorem and_m3 (x : Int) (h0 : 0 ≤ x) (h1 : x < 4294967296) : bits .and .u32 x 16711935 = x / 65536 % 256 * 65536 + x % 256 := by
  obtain ⟨a, rfl⟩ := Int.eq_ofNat_of_zero_le h0
  obtain ⟨m, hm⟩ : ∃ m : Nat, m = 16711935 := ⟨_, rfl⟩
  have h := (bits_nat .u32 32 (by decide) (fun n h0 h1 => wrap_u32' n h0 h1) a m (by omega) (by omega)).1
  have e : (m : Int) = 16711935 := by omega
  rw [e] at h
  rw [h, hm, land_m3]
  omega
theorem cast1 (c a : Nat) : ((c * 65536 + a : Nat) : Int) = (c : Int) * 65536 + (a : Int) := by omega
theorem cast2 (d b : Nat) : ((d * 16777216 + b * 256 : Nat) : Int) = (d : Int) * 16777216 + (b : Int) * 256 := by omega
theorem cast3 (a b c d : Nat) : ((d * 16777216 + c * 65536 + b * 256 + a : Nat) : Int) = (d : Int) * 16777216 + (c : Int) * 65536 + (b : Int) * 256 + (a : Int) := by omega
theorem or_mixed (a b c d : Int) (ha : 0 ≤ a ∧ a < 256) (hb : 0 ≤ b ∧ b < 256) (hc : 0 ≤ c ∧ c < 256) (hd : 0 ≤ d ∧ d < 256) : bits .or .u32 (c * 65536 + a) (d * 16777216 + b * 256) = d * 16777216 + c * 65536 + b * 256 + a := by
  obtain ⟨a, rfl⟩ := Int.eq_ofNat_of_zero_le ha.1
  obtain ⟨b, rfl⟩ := Int.eq_ofNat_of_zero_le hb.1
  obtain ⟨c, rfl⟩ := Int.eq_ofNat_of_zero_le hc.1
  obtain ⟨d, rfl⟩ := Int.eq_ofNat_of_zero_le hd.1
  have h := (bits_nat .u32 32 (by decide) (fun n h0 h1 => wrap_u32' n h0 h1) (c * 65536 + a) (d * 16777216 + b * 256) (by omega) (by omega)).2
  rw [lor_mixed a b c d (by omega) (by omega) (by omega) (by omega)] at h
  rw [cast1, cast2, cast3] at h
  exact h
theorem rev_math (x : Int) (h0 : 0 ≤ x) (h1 : x < 4294967296) : bits .or .u32 (bits .or .u32 (bits .and .u32 (x / 256) 16711935) (bits .and .u32 x 16711935 * 256 % 4294967296) / 65536) (bits .or .u32 (bits .and .u32 (x / 256) 16711935) (bits .and .u32 x 16711935 * 256 % 4294967296) * 65536 % 4294967296) = rev32 x := by
  rw [and_m3 x h0 h1, and_m3 (x / 256) (by omega) (by omega)]
  have e : (x / 65536 % 256 * 65536 + x % 256) * 256 % 4294967296 = x / 65536 % 256 * 16777216 + x % 256 * 256 := by omega
  rw [e, or_mixed (x / 256 % 256) (x % 256) (x / 256 / 65536 % 256) (x / 65536 % 256) (by omega) (by omega) (by omega) (by omega)]
  obtain ⟨b0, e0⟩ : ∃ b, b = x % 256 := ⟨_, rfl⟩
  obtain ⟨b1, e1⟩ : ∃ b, b = x / 256 % 256 := ⟨_, rfl⟩
  obtain ⟨b2, e2⟩ : ∃ b, b = x / 65536 % 256 := ⟨_, rfl⟩
  obtain ⟨b3, e3⟩ : ∃ b, b = x / 256 / 65536 % 256 := ⟨_, rfl⟩
  have e4 : rev32 x = b0 * 16777216 + b1 * 65536 + b2 * 256 + b3 := by unfold rev32; omega
  rw [e4, ← e0, ← e1, ← e2, ← e3]
  have g0 : (b2 * 16777216 + b3 * 65536 + b0 * 256 + b1) / 65536 = b2 * 256 + b3 := by omega
  have g1 : (b2 * 16777216 + b3 * 65536 + b0 * 256 + b1) * 65536 % 4294967296 = b0 * 16777216 + b1 * 65536 := by omega
  rw [g0, g1]
  have hj := bits_join .u32 32 (by decide) (fun n h0 h1 => wrap_u32' n h0 h1) 16 (b0 * 16777216 + b1 * 65536) (b2 * 256 + b3) (by omega) (by omega) (by omega) (by omega) (by omega) (by omega)
  obtain ⟨p, hp⟩ := Int.eq_ofNat_of_zero_le (show 0 ≤ b0 * 16777216 + b1 * 65536 by omega)
  obtain ⟨q, hq⟩ := Int.eq_ofNat_of_zero_le (show 0 ≤ b2 * 256 + b3 by omega)
  rw [hp, hq] at hj ⊢
  rw [(bits_nat .u32 32 (by decide) (fun n h0 h1 => wrap_u32' n h0 h1) p q (by omega) (by omega)).2] at hj
  rw [(bits_nat .u32 32 (by decide) (fun n h0 h1 => wrap_u32' n h0 h1) q p (by omega) (by omega)).2, Nat.or_comm, hj]
  omega
theorem rev_bd (x : Int) : 0 ≤ rev32 x ∧ rev32 x < 4294967296 := by unfold rev32; omega
/-- The turned sum, put with the high byte first, is the sum with the low byte first. -/
theorem put_rev (c : Int) (h0 : 0 ≤ c) (h1 : c ≤ 4294967295) : putL (rev32 c) 4 = tailL c := by
  have hr : List.range 4 = [0, 1, 2, 3] := by decide
  unfold putL tailL
  rw [hr]
  simp only [List.map_cons, List.map_nil]
  obtain ⟨b0, e0⟩ : ∃ b, b = c % 256 := ⟨_, rfl⟩
  obtain ⟨b1, e1⟩ : ∃ b, b = c / 256 % 256 := ⟨_, rfl⟩
  obtain ⟨b2, e2⟩ : ∃ b, b = c / 65536 % 256 := ⟨_, rfl⟩
  obtain ⟨b3, e3⟩ : ∃ b, b = c / 16777216 % 256 := ⟨_, rfl⟩
  have e4 : rev32 c = b0 * 16777216 + b1 * 65536 + b2 * 256 + b3 := by unfold rev32; omega
  have a0 : 0 ≤ b0 ∧ b0 < 256 := by omega
  have a1 : 0 ≤ b1 ∧ b1 < 256 := by omega
  have a2 : 0 ≤ b2 ∧ b2 < 256 := by omega
  have a3 : 0 ≤ b3 ∧ b3 < 256 := by omega
  rw [e4, ← e0, ← e1, ← e2, ← e3]
  clear e0 e1 e2 e3 e4
  unfold byteOf
  simp only [show 2 ^ (8 * (4 - 1 - 0)) = (16777216 : Int) by decide, show 2 ^ (8 * (4 - 1 - 1)) = (65536 : Int) by decide, show 2 ^ (8 * (4 - 1 - 2)) = (256 : Int) by decide, show 2 ^ (8 * (4 - 1 - 3)) = (1 : Int) by decide]
  simp only [List.cons.injEq, and_true]
  omega
theorem take_rev (zs : List Int) (hl : zs.length = 4) (hz : ∀ z ∈ zs, 0 ≤ z ∧ z ≤ 255) (c : Int) (h0 : 0 ≤ c) (h1 : c ≤ 4294967295) : (tnum zs == rev32 c) = decide (tailL c = zs) := by
  match zs, hl with
  | [z0, z1, z2, z3], _ =>
    have a0 := hz z0 (by simp)
    have a1 := hz z1 (by simp)
    have a2 := hz z2 (by simp)
    have a3 := hz z3 (by simp)
    rw [Bool.eq_iff_iff, beq_iff_eq, decide_eq_true_iff]
    obtain ⟨b0, e0⟩ : ∃ b, b = c % 256 := ⟨_, rfl⟩
    obtain ⟨b1, e1⟩ : ∃ b, b = c / 256 % 256 := ⟨_, rfl⟩
    obtain ⟨b2, e2⟩ : ∃ b, b = c / 65536 % 256 := ⟨_, rfl⟩
    obtain ⟨b3, e3⟩ : ∃ b, b = c / 16777216 % 256 := ⟨_, rfl⟩
    have e4 : rev32 c = b0 * 16777216 + b1 * 65536 + b2 * 256 + b3 := by unfold rev32; omega
    have c0 : 0 ≤ b0 ∧ b0 < 256 := by omega
    have c1 : 0 ≤ b1 ∧ b1 < 256 := by omega
    have c2 : 0 ≤ b2 ∧ b2 < 256 := by omega
    have c3 : 0 ≤ b3 ∧ b3 < 256 := by omega
    unfold tailL
    rw [e4, ← e0, ← e1, ← e2, ← e3]
    clear e0 e1 e2 e3 e4 hz
    unfold tnum
    simp only [List.foldl_cons, List.foldl_nil, List.cons.injEq, and_true]
    constructor <;> intro h <;> omega

attribute [local go_sem] and_1_u32 signed_u32
theorem crc_walk (a : Option Addr) (n cap : Nat) (zs : List Int) (w : World) (hn : zs.length = n) (ha : Arr w a zs) (hm : n ≤ 1048576) :
    Calls Tryd.prog 71 #[.slice a n cap] w fun e w' => e = .returned (.int .i64 (4294967295 - (crc zs : Int))) ∧ w' = w := by
  have HN := hide hn
  have HA := hide ha
  clear hn ha
  go_enter Tryd.func71, Tryd.ntmps71
  go_wp2_with fail
  go_loop [3, 9] (fun r t => ∃ k : Nat, k ≤ n ∧ t = .int .i64 k ∧ r = .int .u32 (crc (zs.take k) : Nat)) (fun _ t => n - (intOf t).toNat)
  case atStart => exact ⟨0, Nat.zero_le _, rfl, rfl⟩
  case round =>
    obtain ⟨k, hk, rfl, rfl⟩ := hrel
    have hlt0 := crc_lt zs HA.out.1 k
    by_cases hlt : k < n
    · obtain ⟨b1, o1, rfl, hb1, hc1⟩ := HA.out.2 k (by rw [HN.out]; exact hlt)
      have HT := hide (crc_take zs k (by rw [HN.out]; exact hlt))
      have hz := getD_bd HA.out.1 k
      obtain ⟨z, hz'⟩ := Int.eq_ofNat_of_zero_le hz.1
      rw [hz'] at hz hc1
      have HZ := hide hz'
      clear hz'
      have hx : bits .xor .u32 ((crc (zs.take k) : Nat) : Int) (z : Int) = ((crc (zs.take k) ^^^ z : Nat) : Int) := xor_u32 _ _ hlt0 (by omega)
      generalize hr : crc (zs.take k) = r at *
      have HR := hide hr
      clear hr
      have hrz : r ^^^ z < 4294967296 := xor_lt hlt0 (by omega)
      generalize hs : r ^^^ z = s at *
      have HSS := hide hs
      clear hs
      go_wp2_with fail
      go_loop [3, 17] (fun r t => ∃ j : Nat, j ≤ 8 ∧ t = .int .i64 j ∧ r = .int .u32 (crcSteps j s : Nat)) (fun _ t => 8 - (intOf t).toNat)
      case atStart => exact ⟨0, by omega, rfl, rfl⟩
      case round =>
        obtain ⟨j, hj, rfl, rfl⟩ := hrel
        have hxl := crcSteps_lt hrz j
        have HJ : Hid (crcSteps (j + 1) s = crcStep (crcSteps j s)) := rfl
        by_cases hj8 : j < 8
        · generalize crcSteps j s = x at *
          have hp := poly_u32 x hxl
          by_cases ho : x % 2 = 1
          · have HS1 := hide (step_odd ho)
            have hb1 : ((x : Int) % 2 == 1) = true := by rw [beq_iff_eq]; omega
            clear ho
            go_wp2
            go_round
            case rel => exact ⟨j + 1, by omega, by go_num, by rw [HJ.out, HS1.out]⟩
            case measure => simp [intOf]; omega
          · have HS1 := hide (step_even ho)
            have hb1 : ((x : Int) % 2 == 1) = false := by rw [beq_eq_false_iff_ne]; omega
            clear ho
            go_wp2
            go_round
            case rel => exact ⟨j + 1, by omega, by go_num, by rw [HJ.out, HS1.out]; go_num⟩
            case measure => simp [intOf]; omega
        · have hj' : j = 8 := by omega
          subst hj'
          go_wp2
          go_round
          case rel => exact ⟨k + 1, by omega, by go_num, by rw [HT.out, crcByte, HZ.out, Int.toNat_natCast, HSS.out]⟩
          case measure => simp [intOf]; omega
    · have hk' : k = n := by omega
      subst hk'
      have HE : Hid (zs.take k = zs) := hide (List.take_of_length_le (by rw [HN.out]; exact Nat.le_refl _))
      have hnot := not_u32 ((crc (zs.take k) : Nat) : Int) (by omega) (by omega)
      go_wp2
      go_ret
      exact ⟨ret_int (by rw [HE.out]), rfl⟩

set_option maxHeartbeats 1000000 in
theorem rev_walk (x : Int) (w : World) (h0 : 0 ≤ x) (h1 : x < 4294967296) :
    Calls Tryd.prog 70 #[.int .u32 x] w fun e w' => e = .returned (.int .u32 (rev32 x)) ∧ w' = w := by
  have HM := hide (rev_math x h0 h1)
  go_enter Tryd.func70, Tryd.ntmps70
  go_wp2
  go_ret
  exact ⟨by rw [HM.out]; rfl, rfl⟩
theorem frameSum_walk (a : Option Addr) (n cap : Nat) (zs : List Int) (w : World) (hn : zs.length = n) (ha : Arr w a zs) (hm : n ≤ 1048576) :
    Calls Tryd.prog 43 #[.slice a n cap] w fun e w' => e = .returned (.int .i64 (rev32 (sumOf zs))) ∧ w' = w := by
  have hbd := sumOf_bd zs ha.1
  have HC : Hid (Calls Tryd.prog 71 #[.slice a n cap] w fun e w' => e = .returned (.int .i64 (sumOf zs)) ∧ w' = w) := hide (crc_walk a n cap zs w hn ha hm)
  clear hn ha
  generalize sumOf zs = c at *
  have hr := rev_bd c
  have HR := hide (rev_walk c w hbd.1 (by omega))
  generalize rev32 c = r at *
  go_enter Tryd.func43, Tryd.ntmps43
  go_wp2_with fail
  refine HC.out.mono ?_
  rintro e w1 ⟨rfl, hw1⟩
  rw [hw1]
  clear hw1
  go_wp2_with fail
  refine HR.out.mono ?_
  rintro e w2 ⟨rfl, hw2⟩
  rw [hw2]
  clear hw2
  go_wp2_with fail
  go_ret
  exact ⟨rfl, rfl⟩
end Go.Proofs.YthoinddlnmailaaDoor
