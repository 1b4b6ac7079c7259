/-
Contracts of functions of this seat.
-/
import Derived.Test.YtmgjagajcmeikabRows
import Derived.WalkKit
import Derived.ProofKit
import Derived.OpenShut
import Derived.Deep.QuietTactic
import Derived.Below
import Derived.OwnWalk
import Derived.BigQuiet
namespace Go.Proofs.Ytmgjagajcmeikab
open Go.ChangeShapes Go.WideShapes Go.ChangeAt Go.RowKit
set_option linter.unusedVariables false
theorem i64_bd {a : Int} (h : (Lit.int .i64 a).wf = true) : -9223372036854775808 ≤ a ∧ a ≤ 9223372036854775807 := by
  simpa [Lit.wf, IntKind.min, IntKind.max, IntKind.signed, IntKind.bits] using h
theorem ret_int {k : IntKind} {a b : Int} (h : a = b) : Ending.returned (.int k a) = .returned (.int k b) := by rw [h]
theorem ret_bool {a b : Bool} (h : a = b) : Ending.returned (.bool a) = .returned (.bool b) := by rw [h]
theorem hide {P : Prop} (h : P) : Hid P := h
theorem below_drewN {B : Nat} {a w : World} (h : Below B a w) (n : Nat) : Below B a (w.drewN n) := ⟨h.os, h.tape, h.output, h.size, h.block⟩

/-- 'x & (2^i - 1)' is x modulo 2^i, also of a number below 0. -/
theorem and_mask (k : IntKind) (i : Nat) (hi : i ≤ k.bits) (hk : ∀ n : Int, 0 ≤ n → n < 2 ^ i → k.wrap n = n) (x : Int) :
    bits .and k x ((2 ^ i - 1 : Nat) : Int) = x % 2 ^ i := by
  have hpos : 0 < 2 ^ i := Nat.two_pow_pos i
  have hle : 2 ^ i ≤ 2 ^ k.bits := Nat.pow_le_pow_right (by decide) hi
  have hm : (2 ^ i - 1) % 2 ^ k.bits = 2 ^ i - 1 := Nat.mod_eq_of_lt (by omega)
  have hd : (2 ^ i : Int) ∣ 2 ^ k.bits := by
    obtain ⟨c, hc⟩ := Nat.pow_dvd_pow 2 hi
    exact ⟨(c : Int), by exact_mod_cast hc⟩
  have hx : (((x % (2 ^ k.bits : Nat)).toNat % 2 ^ i : Nat) : Int) = x % 2 ^ i := by
    have h0 : 0 ≤ x % ((2 ^ k.bits : Nat) : Int) := Int.emod_nonneg _ (by have := Nat.two_pow_pos k.bits; omega)
    rw [Int.natCast_emod, Int.toNat_of_nonneg h0]
    push_cast
    exact Int.emod_emod_of_dvd x hd
  have hn : (x % (2 ^ k.bits : Nat)).toNat &&& (2 ^ i - 1) = (x % (2 ^ k.bits : Nat)).toNat % 2 ^ i := Nat.and_two_pow_sub_one_eq_mod _ _
  simp only [bits, BitVec.ofInt_natCast, BitVec.toNat_and, BitVec.toNat_ofNat, BitVec.toNat_ofInt, hm, hn, hx]
  exact hk _ (Int.emod_nonneg _ (by have : (0 : Int) < 2 ^ i := by exact_mod_cast hpos
                                    omega)) (Int.emod_lt_of_pos _ (by exact_mod_cast hpos))
theorem wrap_i64' (n : Int) (h0 : 0 ≤ n) (h1 : n ≤ 9223372036854775807) : IntKind.i64.wrap n = n := by rw [IntKind.wrap_i64]; omega
theorem wrap_u64 (n : Int) : IntKind.u64.wrap n = n % 18446744073709551616 := by simp [IntKind.wrap, IntKind.bits, IntKind.signed]
theorem wrap_u16 (n : Int) : IntKind.u16.wrap n = n % 65536 := by simp [IntKind.wrap, IntKind.bits, IntKind.signed]
theorem and_65535_i64 (x : Int) : bits .and .i64 x 65535 = x % 65536 :=
  and_mask .i64 16 (by decide) (fun n h0 h1 => wrap_i64' n h0 (by omega)) x
theorem and_255_i64 (x : Int) : bits .and .i64 x 255 = x % 256 :=
  and_mask .i64 8 (by decide) (fun n h0 h1 => wrap_i64' n h0 (by omega)) x
theorem and_1_i64 (x : Int) : bits .and .i64 x 1 = x % 2 :=
  and_mask .i64 1 (by decide) (fun n h0 h1 => wrap_i64' n h0 (by omega)) x
theorem and_65535_u64 (x : Int) : bits .and .u64 x 65535 = x % 65536 :=
  and_mask .u64 16 (by decide) (fun n h0 h1 => by rw [wrap_u64]; omega) x
theorem and_1_u32 (x : Int) : bits .and .u32 x 1 = x % 2 :=
  and_mask .u32 1 (by decide) (fun n h0 h1 => by rw [IntKind.wrap_u32]; omega) x
theorem and_15_u8 (x : Int) : bits .and .u8 x 15 = x % 16 :=
  and_mask .u8 4 (by decide) (fun n h0 h1 => by rw [IntKind.wrap_u8]; omega) x
/-- '^x' of an unsigned number: what is lacking to the greatest. -/
theorem not_of (k : IntKind) (hu : k.signed = false) (x : Int) (h0 : 0 ≤ x) (h1 : x < 2 ^ k.bits) : bits .xor k k.max x = k.max - x := by
  obtain ⟨a, rfl⟩ := Int.eq_ofNat_of_zero_le h0
  have ha : a < 2 ^ k.bits := by exact_mod_cast h1
  have hpos : 0 < 2 ^ k.bits := Nat.two_pow_pos _
  have hmax : k.max = ((2 ^ k.bits - 1 : Nat) : Int) := by
    unfold IntKind.max
    rw [if_neg (by simp [hu]), Int.natCast_sub hpos]; simp
  have hall : BitVec.ofInt k.bits k.max = BitVec.allOnes k.bits := by
    rw [hmax, BitVec.ofInt_natCast]; apply BitVec.eq_of_toNat_eq; simp
  have hw : ∀ n : Nat, n < 2 ^ k.bits → k.wrap n = n := by
    intro n hn
    unfold IntKind.wrap
    simp only [hu, Bool.false_and]
    rw [if_neg (by simp)]
    exact_mod_cast Nat.mod_eq_of_lt hn
  unfold bits
  simp only [hall, BitVec.allOnes_xor, BitVec.toNat_not, BitVec.ofInt_natCast, BitVec.toNat_ofNat, Nat.mod_eq_of_lt ha]
  rw [hw _ (by omega), hmax]
  omega
theorem not_u16 (n : Int) : bits .xor .u16 IntKind.u16.max (n % 65536) = 65535 - n % 65536 :=
  not_of .u16 rfl (n % 65536) (by omega) (by show _ < (65536 : Int); omega)
theorem not_u32 (n : Int) (h0 : 0 ≤ n) (h1 : n < 4294967296) : bits .xor .u32 IntKind.u32.max n = 4294967295 - n :=
  not_of .u32 rfl n h0 (by show _ < (4294967296 : Int); omega)
theorem signed_u16 : IntKind.u16.signed = false := rfl
theorem signed_u32 : IntKind.u32.signed = false := rfl

/-- The bytes of a slice whose array begins at a: zs, from the first on. -/
def Arr (w : World) (a : Option Addr) (zs : List Int) : Prop :=
  (∀ z ∈ zs, 0 ≤ z ∧ z ≤ 255) ∧ ∀ j, j < zs.length → ∃ b off, a = some ⟨b, off, none⟩ ∧ b < w.heap.size ∧ w.cell? ⟨b, off + j, none⟩ = some (.int .u8 (zs.getD j 0))
theorem Arr.below {B : Nat} {w w' : World} {a : Option Addr} {zs : List Int} (h : Arr w a zs) (hb : Below B w w') (hB : w.heap.size ≤ B) : Arr w' a zs := by
  refine ⟨h.1, fun j hj => ?_⟩
  obtain ⟨b, off, ha, hlt, hc⟩ := h.2 j hj
  exact ⟨b, off, ha, by have := hb.size; omega, by rw [hb.cell (p := ⟨b, off + j, none⟩) (by show b < B; omega)]; exact hc⟩
theorem getD_bd {zs : List Int} (h : ∀ z ∈ zs, 0 ≤ z ∧ z ≤ 255) (j : Nat) : 0 ≤ zs.getD j 0 ∧ zs.getD j 0 ≤ 255 := by
  by_cases hj : j < zs.length
  · rw [List.getD_eq_getElem?_getD, List.getElem?_eq_getElem hj]; exact h _ (List.getElem_mem hj)
  · rw [List.getD_eq_getElem?_getD, List.getElem?_eq_none (by omega)]; simp
theorem grown_trans {a b c : World} {row : Option Nat} (h : a.grownBy b row) (k : b.grownBy c row) : a.grownBy c row :=
  ⟨k.os.trans h.os, k.tape.trans h.tape, k.output.trans h.output, Nat.le_trans h.size k.size, fun i hi hr => (k.block i (Nat.lt_of_lt_of_le hi h.size) hr).trans (h.block i hi hr)⟩

def hexv (c : Int) : Int := if 48 ≤ c ∧ c ≤ 57 then c - 48 else if 97 ≤ c ∧ c ≤ 102 then c - 87 else if 65 ≤ c ∧ c ≤ 70 then c - 55 else -1
theorem hexv_bd (c : Int) : -1 ≤ hexv c ∧ hexv c ≤ 15 := by unfold hexv; split <;> (try split) <;> (try split) <;> omega
theorem hexv_cases (c : Int) : (48 ≤ c ∧ c ≤ 57 ∧ hexv c = c - 48) ∨ (97 ≤ c ∧ c ≤ 102 ∧ hexv c = c - 87) ∨ (65 ≤ c ∧ c ≤ 70 ∧ hexv c = c - 55) ∨ (hexv c = -1 ∧ (c < 48 ∨ 57 < c) ∧ (c < 97 ∨ 102 < c) ∧ (c < 65 ∨ 70 < c)) := by
  unfold hexv
  split
  · left; omega
  · split
    · right; left; omega
    · split
      · right; right; left; omega
      · right; right; right; refine ⟨rfl, ?_, ?_, ?_⟩ <;> omega

set_option maxHeartbeats 1000000 in
theorem specHex_walk (c : Int) (w : World) (h0 : 0 ≤ c) (h1 : c ≤ 255) :
    Calls Try.prog 23 #[.int .u8 c] w fun e w' => e = .returned (.int .i64 (hexv c)) ∧ w' = w := by
  by_cases a1 : 48 ≤ c
  all_goals by_cases a2 : c ≤ 57
  all_goals by_cases b1 : 97 ≤ c
  all_goals by_cases b2 : c ≤ 102
  all_goals by_cases d1 : 65 ≤ c
  all_goals by_cases d2 : c ≤ 70
  all_goals first
    | (exfalso; omega)
    | (have HV : Hid (hexv c = hexv c) := rfl
       go_enter Try.func23, Try.ntmps23
       go_wp2
       go_ret
       refine ⟨ret_int ?_, rfl⟩
       unfold hexv
       repeat (first | rw [if_pos (by omega)] | rw [if_neg (by omega)])
       try omega)

theorem ret_pair {k : IntKind} {a b : Int} {v : Value} (h : a = b) : Ending.returned (.tuple #[.int k a, v]) = .returned (.tuple #[.int k b, v]) := by rw [h]
set_option maxHeartbeats 1000000 in
theorem hexDigit_yes (c : Int) (w : World) (h0 : 0 ≤ c) (h1 : c ≤ 255) (hh : 0 ≤ hexv c) :
    Calls Try.prog 24 #[.int .u8 c] w fun e w' => e = .returned (.tuple #[.int .u8 (hexv c), .bool true]) ∧ w' = w := by
  rcases hexv_cases c with ⟨a1, a2, hv⟩ | ⟨a1, a2, hv⟩ | ⟨a1, a2, hv⟩ | ⟨hv, _⟩
  · have HV := hide hv
    clear hv hh
    go_enter Try.func24, Try.ntmps24
    go_wp2
    go_ret2
    exact ⟨ret_pair (by rw [HV.out]), rfl⟩
  · have HV := hide hv
    have a3 : ¬ c ≤ 57 := by omega
    clear hv hh
    go_enter Try.func24, Try.ntmps24
    go_wp2
    go_ret2
    exact ⟨ret_pair (by rw [HV.out]; omega), rfl⟩
  · have HV := hide hv
    have a3 : ¬ c ≤ 57 := by omega
    have a4 : ¬ 97 ≤ c := by omega
    clear hv hh
    go_enter Try.func24, Try.ntmps24
    go_wp2
    go_ret2
    exact ⟨ret_pair (by rw [HV.out]; omega), rfl⟩
  · omega
set_option maxHeartbeats 1000000 in
theorem hexDigit_no (c : Int) (w : World) (h0 : 0 ≤ c) (h1 : c ≤ 255) (hh : ¬ 0 ≤ hexv c) :
    Calls Try.prog 24 #[.int .u8 c] w fun e w' => e = .returned (.tuple #[.int .u8 0, .bool false]) ∧ w' = w := by
  rcases hexv_cases c with ⟨a1, a2, hv⟩ | ⟨a1, a2, hv⟩ | ⟨a1, a2, hv⟩ | ⟨hv, k1, k2, k3⟩
  · omega
  · omega
  · omega
  · clear hh hv
    rcases k1 with k1 | k1 <;> rcases k2 with k2 | k2 <;> rcases k3 with k3 | k3
    all_goals first
      | (exfalso; omega)
      | (go_enter Try.func24, Try.ntmps24
         go_wp2
         go_ret2
         exact ⟨rfl, rfl⟩)

/-- The i-th byte of a text. -/
def ch (s : ByteArray) (i : Nat) : Int := if h : i < s.size then (s[i].toNat : Int) else 0
theorem ch_eq {s : ByteArray} {i : Nat} (h : i < s.size) : ((s[i]'h).toNat : Int) = ch s i := by unfold ch; rw [dif_pos h]
theorem ch_bd (s : ByteArray) (i : Nat) : 0 ≤ ch s i ∧ ch s i ≤ 255 := by
  unfold ch; split
  · have := s[i].toNat_lt; omega
  · omega
def okAt (s : ByteArray) (i : Nat) : Bool := if i % 3 = 2 then ch s i == 58 else decide (0 ≤ hexv (ch s i))
def allOK (s : ByteArray) : Prop := ∀ i, i < 17 → okAt s i = true
def mval (s : ByteArray) : Nat → Int
  | 0 => 0
  | i + 1 => if i % 3 = 2 then mval s i else mval s i * 16 + hexv (ch s i)
def allB (s : ByteArray) : Bool := (List.range 17).all (okAt s)
theorem allB_iff {s : ByteArray} : allB s = true ↔ allOK s := by unfold allB allOK; simp
def macX (s : ByteArray) : Int := if allB s = true then mval s 17 else 0
def macC (s : ByteArray) : Int := if allB s = true then 0 else 6
theorem macX_yes {s : ByteArray} (h : allOK s) : macX s = mval s 17 := by unfold macX; rw [if_pos (allB_iff.2 h)]
theorem macC_yes {s : ByteArray} (h : allOK s) : macC s = 0 := by unfold macC; rw [if_pos (allB_iff.2 h)]
theorem macX_no {s : ByteArray} {j : Nat} (hj : j < 17) (h : okAt s j = false) : macX s = 0 := by
  unfold macX; rw [if_neg (fun ha => by have := allB_iff.1 ha j hj; rw [h] at this; cases this)]
theorem macC_no {s : ByteArray} {j : Nat} (hj : j < 17) (h : okAt s j = false) : macC s = 6 := by
  unfold macC; rw [if_neg (fun ha => by have := allB_iff.1 ha j hj; rw [h] at this; cases this)]
theorem okAt_sep {s : ByteArray} {i : Nat} (h : i % 3 = 2) : okAt s i = (ch s i == 58) := by unfold okAt; rw [if_pos h]
theorem okAt_dig {s : ByteArray} {i : Nat} (h : ¬ i % 3 = 2) : okAt s i = decide (0 ≤ hexv (ch s i)) := by unfold okAt; rw [if_neg h]
theorem mval_sep {s : ByteArray} {i : Nat} (h : i % 3 = 2) : mval s (i + 1) = mval s i := by rw [mval, if_pos h]
theorem mval_dig {s : ByteArray} {i : Nat} (h : ¬ i % 3 = 2) : mval s (i + 1) = mval s i * 16 + hexv (ch s i) := by rw [mval, if_neg h]
theorem mval_bd (s : ByteArray) : ∀ i, (∀ j, j < i → okAt s j = true) → 0 ≤ mval s i ∧ mval s i < 16 ^ (i - i / 3)
  | 0, _ => by simp [mval]
  | i + 1, h => by
    have ih := mval_bd s i (fun j hj => h j (by omega))
    by_cases e : i % 3 = 2
    · rw [mval_sep e, show i + 1 - (i + 1) / 3 = i - i / 3 by omega]; exact ih
    · rw [mval_dig e, show i + 1 - (i + 1) / 3 = (i - i / 3) + 1 by omega, Int.pow_succ]
      have hb := hexv_bd (ch s i)
      have h0 := h i (by omega)
      rw [okAt_dig e] at h0
      have h1 := of_decide_eq_true h0
      omega
theorem mval_small (s : ByteArray) (i : Nat) (hi : i < 17) (he : ¬ i % 3 = 2) (h : ∀ j, j < i → okAt s j = true) : 0 ≤ mval s i ∧ mval s i < 17592186044416 := by
  have hb := mval_bd s i h
  have hp : (16 : Nat) ^ (i - i / 3) ≤ 16 ^ 11 := Nat.pow_le_pow_right (by decide) (by omega)
  have hp' : ((16 : Int) ^ (i - i / 3)) ≤ 16 ^ 11 := by exact_mod_cast hp
  omega

theorem ret_pair2 {k l : IntKind} {a b c d : Int} (h : a = b) (h2 : c = d) : Ending.returned (.tuple #[.int k a, .int l c]) = .returned (.tuple #[.int k b, .int l d]) := by rw [h, h2]
set_option maxHeartbeats 1000000 in
theorem specMac_walk (s : ByteArray) (w : World) (h17 : s.size = 17) :
    Calls Try.prog 9 #[.string s] w fun e w' => e = .returned (.tuple #[.int .i64 (macX s), .int .i64 (macC s)]) ∧ w' = w := by
  go_enter Try.func9, Try.ntmps9
  go_wp2_with fail
  go_loop [4, 5] (fun m t => ∃ i : Nat, i ≤ 17 ∧ t = .int .i64 i ∧ m = .int .i64 (mval s i) ∧ Hid (∀ j, j < i → okAt s j = true)) (fun _ t => 17 - (intOf t).toNat)
  case atStart => exact ⟨0, by omega, rfl, rfl, hide (fun j hj => absurd hj (by omega))⟩
  case round =>
    obtain ⟨i, hi, rfl, rfl, HG⟩ := hrel
    by_cases hlt : i < 17
    · have hsz : i < s.size := by omega
      obtain ⟨c, hc, HC⟩ : ∃ c : Int, ((s[i]'hsz).toNat : Int) = c ∧ Hid (c = ch s i) := ⟨_, rfl, hide (ch_eq hsz)⟩
      have hcb : 0 ≤ c ∧ c ≤ 255 := by rw [HC.out]; exact ch_bd s i
      by_cases h3 : i % 3 = 2
      · have hb : ((i : Int) % 3 == 2) = true := by rw [beq_iff_eq]; omega
        have HM := hide (mval_sep (s := s) h3)
        have HO := hide (okAt_sep (s := s) h3)
        by_cases h58 : c = 58
        · have hn : (c != 58) = false := by rw [h58]; rfl
          have HO1 : Hid (okAt s i = true) := hide (by rw [HO.out, ← HC.out, h58]; rfl)
          clear h58 h3
          go_wp2_with fail
          exact ⟨⟨i + 1, by omega, by go_num, by rw [HM.out], hide (fun j hj => by
            by_cases e : j = i
            · rw [e]; exact HO1.out
            · exact HG.out j (by omega))⟩, by simp [intOf]; omega⟩
        · have hn : (c != 58) = true := by rw [bne_iff_ne]; exact h58
          have HO1 : Hid (okAt s i = false) := hide (by rw [HO.out, ← HC.out]; simpa using h58)
          clear h58 h3
          go_wp2_with fail
          go_ret2
          exact ⟨ret_pair2 (macX_no hlt HO1.out).symm (macC_no hlt HO1.out).symm, rfl⟩
      · have hb : ((i : Int) % 3 == 2) = false := by rw [beq_eq_false_iff_ne]; omega
        have HM := hide (mval_dig (s := s) h3)
        have HO := hide (okAt_dig (s := s) h3)
        have hsm := mval_small s i hlt h3 HG.out
        have hvb := hexv_bd c
        generalize mval s i = x at *
        by_cases h58 : 0 ≤ hexv c
        · have HO1 : Hid (okAt s i = true) := hide (by rw [HO.out, ← HC.out]; exact decide_eq_true h58)
          clear h3
          go_wp2_with (go_at_call 23; refine (specHex_walk _ _ hcb.1 hcb.2).mono ?_; rintro e w' ⟨rfl, rfl⟩)
          exact ⟨⟨i + 1, by omega, by go_num, by rw [HM.out, ← HC.out], hide (fun j hj => by
            by_cases e : j = i
            · rw [e]; exact HO1.out
            · exact HG.out j (by omega))⟩, by simp [intOf]; omega⟩
        · have HO1 : Hid (okAt s i = false) := hide (by rw [HO.out, ← HC.out]; exact decide_eq_false h58)
          clear h3
          go_wp2_with (go_at_call 23; refine (specHex_walk _ _ hcb.1 hcb.2).mono ?_; rintro e w' ⟨rfl, rfl⟩)
          go_ret2
          exact ⟨ret_pair2 (macX_no hlt HO1.out).symm (macC_no hlt HO1.out).symm, rfl⟩
    · have hi' : i = 17 := by omega
      subst hi'
      have HA : Hid (allOK s) := HG
      go_wp2_with fail
      go_ret2
      exact ⟨ret_pair2 (macX_yes HA.out).symm (macC_yes HA.out).symm, rfl⟩
theorem specMac_short (s : ByteArray) (w : World) (h17 : ¬ s.size = 17) (hm : s.size ≤ 1048576) :
    Calls Try.prog 9 #[.string s] w fun e w' => e = .returned (.tuple #[.int .i64 0, .int .i64 6]) ∧ w' = w := by
  have hb : ((s.size : Int) != 17) = true := by rw [bne_iff_ne]; omega
  clear h17
  go_enter Try.func9, Try.ntmps9
  go_wp2
  go_ret2
  exact ⟨rfl, rfl⟩

/-- A number out of bytes, the highest first. -/
def tnum (zs : List Int) : Int := zs.foldl (fun n x => n * 256 + x) 0
theorem tnum_take (zs : List Int) (k : Nat) (h : k < zs.length) : tnum (zs.take (k + 1)) = tnum (zs.take k) * 256 + zs.getD k 0 := by
  unfold tnum
  rw [List.take_succ_eq_append_getElem h, List.foldl_append]
  simp [List.getD_eq_getElem?_getD, h]
theorem tnum_bd (zs : List Int) (h : ∀ z ∈ zs, 0 ≤ z ∧ z ≤ 255) : ∀ k, k ≤ zs.length → 0 ≤ tnum (zs.take k) ∧ tnum (zs.take k) < 256 ^ k
  | 0, _ => by simp [tnum]
  | k + 1, hk => by
    have ih := tnum_bd zs h k (by omega)
    rw [tnum_take zs k (by omega), Int.pow_succ]
    have := getD_bd h k
    omega
theorem or_low_i64 (x y : Int) (hx : 0 ≤ x) (hx1 : x < 36028797018963968) (hy : 0 ≤ y ∧ y ≤ 255) : bits .or .i64 (x * 256) y = x * 256 + y :=
  bits_join .i64 63 (by decide) (fun n h0 h1 => wrap_i64' n h0 (by have : n < 2 ^ 63 := h1; omega)) 8 (x * 256) y (by omega) (by show x * 256 % 256 = 0; omega) (by show x * 256 < 9223372036854775808; omega) hy.1 (by show y < 256; omega) (by show y < 9223372036854775808; omega)
set_option maxHeartbeats 1000000 in
theorem takeNumber_walk (a : Option Addr) (n cap : Nat) (zs : List Int) (w : World) (hn : zs.length = n) (ha : Arr w a zs) (hm : n ≤ 6) :
    Calls Try.prog 25 #[.slice a n cap] w fun e w' => e = .returned (.int .i64 (tnum zs)) ∧ w' = w := by
  have HN := hide hn
  have HA := hide ha
  clear hn ha
  go_enter Try.func25, Try.ntmps25
  go_wp2_with fail
  go_loop [3, 8] (fun r t => ∃ k : Nat, k ≤ n ∧ t = .int .i64 k ∧ r = .int .i64 (tnum (zs.take k))) (fun _ t => n - (intOf t).toNat)
  case atStart => exact ⟨0, Nat.zero_le _, rfl, rfl⟩
  case round =>
    obtain ⟨k, hk, rfl, rfl⟩ := hrel
    have hb := tnum_bd zs HA.out.1 k (by rw [HN.out]; exact hk)
    by_cases hlt : k < n
    · obtain ⟨b1, o1, rfl, hb1, hc1⟩ := HA.out.2 k (by rw [HN.out]; exact hlt)
      have HT := hide (tnum_take zs k (by rw [HN.out]; exact hlt))
      have hz := getD_bd HA.out.1 k
      have hp : (256 : Nat) ^ k ≤ 256 ^ 5 := Nat.pow_le_pow_right (by decide) (by omega)
      have hp2 : (256 : Nat) ^ k ≤ 1099511627776 := hp
      have hp' : ((256 : Int) ^ k) ≤ 1099511627776 := by
        have h2 : ((256 ^ k : Nat) : Int) ≤ ((1099511627776 : Nat) : Int) := Int.ofNat_le.2 hp2
        rw [Int.natCast_pow] at h2; exact h2
      have hb0 := hb.1
      have hb2 : tnum (zs.take k) < 1099511627776 := by have := hb.2; omega
      have ho := or_low_i64 (tnum (zs.take k)) (zs.getD k 0) hb.1 (by omega) hz
      clear hb hp hp2 hp'
      generalize zs.getD k 0 = z at *
      generalize tnum (zs.take k) = r at *
      go_wp2
      go_round
      case rel => exact ⟨k + 1, by omega, by go_num, by rw [HT.out]⟩
      case measure => simp [intOf]; omega
    · have hk' : k = n := by omega
      subst hk'
      have HE : Hid (zs.take k = zs) := hide (List.take_of_length_le (by rw [HN.out]; exact Nat.le_refl _))
      go_wp2
      go_ret
      exact ⟨ret_int (by rw [HE.out]), rfl⟩
end Go.Proofs.Ytmgjagajcmeikab
