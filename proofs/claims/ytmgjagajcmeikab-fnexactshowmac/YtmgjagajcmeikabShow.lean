/-
Contracts of functions of this seat.
-/
import Derived.Test.YtmgjagajcmeikabRows
import Derived.WalkKit
import Derived.ProofKit
import Derived.OpenShut
import Derived.Deep.QuietTactic
import Derived.Below
import Derived.OwnWalk
import Derived.BigQuiet
import Derived.Laws.Strings2
import Derived.Deep.RegionLaw
import Derived.Laws.AppendOwn
import Derived.ArgAppend
namespace Go.Proofs.Ytmgjagajcmeikab
open Go.ChangeShapes Go.WideShapes Go.ChangeAt Go.RowKit
set_option linter.unusedVariables false
theorem i64_bd {a : Int} (h : (Lit.int .i64 a).wf = true) : -9223372036854775808 ≤ a ∧ a ≤ 9223372036854775807 := by
  simpa [Lit.wf, IntKind.min, IntKind.max, IntKind.signed, IntKind.bits] using h
theorem ret_int {k : IntKind} {a b : Int} (h : a = b) : Ending.returned (.int k a) = .returned (.int k b) := by rw [h]
theorem ret_bool {a b : Bool} (h : a = b) : Ending.returned (.bool a) = .returned (.bool b) := by rw [h]
theorem hide {P : Prop} (h : P) : Hid P := h
theorem below_drewN {B : Nat} {a w : World} (h : Below B a w) (n : Nat) : Below B a (w.drewN n) := ⟨h.os, h.tape, h.output, h.size, h.block⟩
theorem below_undrew {B : Nat} {w w' : World} (h : Below B w.drew w') : Below B w w' := ⟨h.os, h.tape, h.output, h.size, h.block⟩

/-- 'x & (2^i - 1)' is x modulo 2^i, also of a number below 0. -/
theorem and_mask (k : IntKind) (i : Nat) (hi : i ≤ k.bits) (hk : ∀ n : Int, 0 ≤ n → n < 2 ^ i → k.wrap n = n) (x : Int) :
    bits .and k x ((2 ^ i - 1 : Nat) : Int) = x % 2 ^ i := by
  have hpos : 0 < 2 ^ i := Nat.two_pow_pos i
  have hle : 2 ^ i ≤ 2 ^ k.bits := Nat.pow_le_pow_right (by decide) hi
  have hm : (2 ^ i - 1) % 2 ^ k.bits = 2 ^ i - 1 := Nat.mod_eq_of_lt (by omega)
  have hd : (2 ^ i : Int) ∣ 2 ^ k.bits := by
    obtain ⟨c, hc⟩ := Nat.pow_dvd_pow 2 hi
    exact ⟨(c : Int), by exact_mod_cast hc⟩
  have hx : (((x % (2 ^ k.bits : Nat)).toNat % 2 ^ i : Nat) : Int) = x % 2 ^ i := by
    have h0 : 0 ≤ x % ((2 ^ k.bits : Nat) : Int) := Int.emod_nonneg _ (by have := Nat.two_pow_pos k.bits; omega)
    rw [Int.natCast_emod, Int.toNat_of_nonneg h0]
    push_cast
    exact Int.emod_emod_of_dvd x hd
  have hn : (x % (2 ^ k.bits : Nat)).toNat &&& (2 ^ i - 1) = (x % (2 ^ k.bits : Nat)).toNat % 2 ^ i := Nat.and_two_pow_sub_one_eq_mod _ _
  simp only [bits, BitVec.ofInt_natCast, BitVec.toNat_and, BitVec.toNat_ofNat, BitVec.toNat_ofInt, hm, hn, hx]
  exact hk _ (Int.emod_nonneg _ (by have : (0 : Int) < 2 ^ i := by exact_mod_cast hpos
                                    omega)) (Int.emod_lt_of_pos _ (by exact_mod_cast hpos))
theorem wrap_i64' (n : Int) (h0 : 0 ≤ n) (h1 : n ≤ 9223372036854775807) : IntKind.i64.wrap n = n := by rw [IntKind.wrap_i64]; omega
theorem wrap_u64 (n : Int) : IntKind.u64.wrap n = n % 18446744073709551616 := by simp [IntKind.wrap, IntKind.bits, IntKind.signed]
theorem wrap_u16 (n : Int) : IntKind.u16.wrap n = n % 65536 := by simp [IntKind.wrap, IntKind.bits, IntKind.signed]
theorem and_65535_i64 (x : Int) : bits .and .i64 x 65535 = x % 65536 :=
  and_mask .i64 16 (by decide) (fun n h0 h1 => wrap_i64' n h0 (by omega)) x
theorem and_255_i64 (x : Int) : bits .and .i64 x 255 = x % 256 :=
  and_mask .i64 8 (by decide) (fun n h0 h1 => wrap_i64' n h0 (by omega)) x
theorem and_1_i64 (x : Int) : bits .and .i64 x 1 = x % 2 :=
  and_mask .i64 1 (by decide) (fun n h0 h1 => wrap_i64' n h0 (by omega)) x
theorem and_65535_u64 (x : Int) : bits .and .u64 x 65535 = x % 65536 :=
  and_mask .u64 16 (by decide) (fun n h0 h1 => by rw [wrap_u64]; omega) x
theorem and_1_u32 (x : Int) : bits .and .u32 x 1 = x % 2 :=
  and_mask .u32 1 (by decide) (fun n h0 h1 => by rw [IntKind.wrap_u32]; omega) x
theorem and_15_u8 (x : Int) : bits .and .u8 x 15 = x % 16 :=
  and_mask .u8 4 (by decide) (fun n h0 h1 => by rw [IntKind.wrap_u8]; omega) x
/-- '^x' of an unsigned number: what is lacking to the greatest. -/
theorem not_of (k : IntKind) (hu : k.signed = false) (x : Int) (h0 : 0 ≤ x) (h1 : x < 2 ^ k.bits) : bits .xor k k.max x = k.max - x := by
  obtain ⟨a, rfl⟩ := Int.eq_ofNat_of_zero_le h0
  have ha : a < 2 ^ k.bits := by exact_mod_cast h1
  have hpos : 0 < 2 ^ k.bits := Nat.two_pow_pos _
  have hmax : k.max = ((2 ^ k.bits - 1 : Nat) : Int) := by
    unfold IntKind.max
    rw [if_neg (by simp [hu]), Int.natCast_sub hpos]; simp
  have hall : BitVec.ofInt k.bits k.max = BitVec.allOnes k.bits := by
    rw [hmax, BitVec.ofInt_natCast]; apply BitVec.eq_of_toNat_eq; simp
  have hw : ∀ n : Nat, n < 2 ^ k.bits → k.wrap n = n := by
    intro n hn
    unfold IntKind.wrap
    simp only [hu, Bool.false_and]
    rw [if_neg (by simp)]
    exact_mod_cast Nat.mod_eq_of_lt hn
  unfold bits
  simp only [hall, BitVec.allOnes_xor, BitVec.toNat_not, BitVec.ofInt_natCast, BitVec.toNat_ofNat, Nat.mod_eq_of_lt ha]
  rw [hw _ (by omega), hmax]
  omega
theorem not_u16 (n : Int) : bits .xor .u16 IntKind.u16.max (n % 65536) = 65535 - n % 65536 :=
  not_of .u16 rfl (n % 65536) (by omega) (by show _ < (65536 : Int); omega)
theorem not_u32 (n : Int) (h0 : 0 ≤ n) (h1 : n < 4294967296) : bits .xor .u32 IntKind.u32.max n = 4294967295 - n :=
  not_of .u32 rfl n h0 (by show _ < (4294967296 : Int); omega)
theorem signed_u16 : IntKind.u16.signed = false := rfl
theorem signed_u32 : IntKind.u32.signed = false := rfl

/-- The bytes of a slice whose array begins at a: zs, from the first on. -/
def Arr (w : World) (a : Option Addr) (zs : List Int) : Prop :=
  (∀ z ∈ zs, 0 ≤ z ∧ z ≤ 255) ∧ ∀ j, j < zs.length → ∃ b off, a = some ⟨b, off, none⟩ ∧ b < w.heap.size ∧ w.cell? ⟨b, off + j, none⟩ = some (.int .u8 (zs.getD j 0))
theorem Arr.below {B : Nat} {w w' : World} {a : Option Addr} {zs : List Int} (h : Arr w a zs) (hb : Below B w w') (hB : w.heap.size ≤ B) : Arr w' a zs := by
  refine ⟨h.1, fun j hj => ?_⟩
  obtain ⟨b, off, ha, hlt, hc⟩ := h.2 j hj
  exact ⟨b, off, ha, by have := hb.size; omega, by rw [hb.cell (p := ⟨b, off + j, none⟩) (by show b < B; omega)]; exact hc⟩
theorem getD_bd {zs : List Int} (h : ∀ z ∈ zs, 0 ≤ z ∧ z ≤ 255) (j : Nat) : 0 ≤ zs.getD j 0 ∧ zs.getD j 0 ≤ 255 := by
  by_cases hj : j < zs.length
  · rw [List.getD_eq_getElem?_getD, List.getElem?_eq_getElem hj]; exact h _ (List.getElem_mem hj)
  · rw [List.getD_eq_getElem?_getD, List.getElem?_eq_none (by omega)]; simp
theorem grown_trans {a b c : World} {row : Option Nat} (h : a.grownBy b row) (k : b.grownBy c row) : a.grownBy c row :=
  ⟨k.os.trans h.os, k.tape.trans h.tape, k.output.trans h.output, Nat.le_trans h.size k.size, fun i hi hr => (k.block i (Nat.lt_of_lt_of_le hi h.size) hr).trans (h.block i hi hr)⟩

theorem In_yes (n a b : Int) (w : World) (h : a ≤ n ∧ n ≤ b) :
    Calls Try.prog 37 #[.int .i64 n, .int .i64 a, .int .i64 b] w fun e w' => e = .returned (.bool true) ∧ w' = w := by
  obtain ⟨h1, h2⟩ := h
  go_enter Try.func37, Try.ntmps37
  go_wp2
  go_ret
  exact ⟨rfl, rfl⟩
theorem In_no (n a b : Int) (w : World) (h : ¬ (a ≤ n ∧ n ≤ b)) :
    Calls Try.prog 37 #[.int .i64 n, .int .i64 a, .int .i64 b] w fun e w' => e = .returned (.bool false) ∧ w' = w := by
  by_cases h1 : a ≤ n
  · have h2 : ¬ n ≤ b := fun h2 => h ⟨h1, h2⟩
    clear h
    go_enter Try.func37, Try.ntmps37
    go_wp2
    go_ret
    exact ⟨rfl, rfl⟩
  · clear h
    go_enter Try.func37, Try.ntmps37
    go_wp2
    go_ret
    exact ⟨rfl, rfl⟩

/-- The j-th of n bytes of v, the highest first. -/
def byteOf (v : Int) (n j : Nat) : Int := v / 2 ^ (8 * (n - 1 - j)) % 256
theorem byteOf_bd (v : Int) (n j : Nat) : 0 ≤ byteOf v n j ∧ byteOf v n j ≤ 255 := by unfold byteOf; omega
theorem putNumber_walk (g n : Nat) (v : Int) (e : Nat) (xs0 : List Value) (w : World) (hn : n ≤ 8) (hown : w.ownsRow g e 1 (.slice (some ⟨g, 0, none⟩) n n) n xs0) :
    Calls Try.prog 38 #[.slice (some ⟨g, 0, none⟩) n n, .int .i64 v] w fun e' w' => e' = .returned (.tuple #[]) ∧ w.grownBy w' (some g) ∧
      ∃ xs, w'.ownsRow g e 1 (.slice (some ⟨g, 0, none⟩) n n) n xs ∧ ∀ j, j < n → xs[j]? = some (.int .u8 (byteOf v n j)) := by
  have HO := hide hown
  clear hown
  go_enter Try.func38, Try.ntmps38
  go_wp2_with fail
  go_loopw [7] (fun t w2 => ∃ (k : Nat) (xs : List Value), k ≤ n ∧ t = .int .i64 k ∧ w.grownBy w2 (some g) ∧ Hid (w2.ownsRow g e 1 (.slice (some ⟨g, 0, none⟩) n n) n xs) ∧ Hid (∀ j, n - k ≤ j → j < n → xs[j]? = some (.int .u8 (byteOf v n j)))) (fun t _ => n - (intOf t).toNat)
  case atStart => exact ⟨0, xs0, Nat.zero_le _, rfl, World.grownBy.refl _ _, HO, hide (fun j h1 h2 => absurd h2 (by omega))⟩
  case round =>
    obtain ⟨k, xs, hk, rfl, hb, HO2, HX⟩ := hrel
    by_cases hlt : k < n
    · have hl : xs.length = n := by have := HO2.out.1; omega
      have hf : wr.frozen? ⟨g, n - 1 - k, none⟩ = false := HO2.out.frozenAt _
      obtain ⟨old, hc3⟩ : ∃ old, wr.cell? ⟨g, n - 1 - k, none⟩ = some old := ⟨_, by rw [HO2.out.cellAt _ (by omega)]; exact List.getElem?_eq_getElem (by omega)⟩
      have HL := hide hl
      clear hl
      go_wp2
      have hst := HO2.out.stored (n - 1 - k) (.int .u8 (v / 2 ^ (8 * k) % 256))
      refine ⟨⟨k + 1, _, by omega, by go_num, grown_trans hb hst.2, hide hst.1, hide (fun j h1 h2 => ?_)⟩, by simp [intOf]; omega⟩
      by_cases ej : j = n - 1 - k
      · subst ej
        have hl := HL.out
        rw [List.getElem?_set_self (by omega)]
        unfold byteOf
        rw [show n - 1 - (n - 1 - k) = k by omega]
      · rw [List.getElem?_set_ne (fun h => ej h.symm)]
        exact HX.out j (by omega) h2
    · go_wp2
      go_end0
      exact ⟨rfl, hb, xs, HO2.out, fun j hj => HX.out j (by omega) hj⟩

/-- The digits of base 16. -/
def hexS : ByteArray := ⟨#[48, 49, 50, 51, 52, 53, 54, 55, 56, 57, 97, 98, 99, 100, 101, 102]⟩
def hx (q : Nat) : ByteArray := hexS.extract q (q + 1)
def hxb (q : Nat) : UInt8 := hexS.data.getD q 0
theorem hx_one : ∀ q : Fin 16, hx q.val = ⟨#[hxb q.val]⟩ := by decide
theorem hx_eq (q : Nat) (h : q < 16) : hx q = ⟨#[hxb q]⟩ := hx_one ⟨q, h⟩
theorem hx_size (q : Nat) (h : q < 16) : (hx q).size = 1 := by rw [hx_eq q h]; rfl
theorem slice_hex (q : Nat) (h : q < 16) (w : World) : (Instr.slice 9 (.string ⟨#[48, 49, 50, 51, 52, 53, 54, 55, 56, 57, 97, 98, 99, 100, 101, 102]⟩) (some (.int .i64 (q : Int))) (some (.int .i64 ((q : Int) + 1))) none).run Try.prog w = .ok (.string (hx q)) w := by
  have e := run_slice_string (P := Try.prog) w 9 hexS .i64 .i64 (q : Int) ((q : Int) + 1) Try.underlying9 (by omega) (by omega) (by show (q : Int) + 1 ≤ 16; omega)
  rw [show ((q : Int) + 1).toNat = q + 1 by omega, Int.toNat_natCast] at e
  exact e
def hiN (m : Int) (k : Nat) : Nat := (byteOf m 6 k / 16).toNat
def loN (m : Int) (k : Nat) : Nat := (byteOf m 6 k % 16).toNat
/-- The text of the first k bytes, each but the last with its sign behind it. -/
def macL (m : Int) : Nat → ByteArray
  | 0 => ⟨#[]⟩
  | k + 1 => if k < 5 then macL m k ++ hx (hiN m k) ++ hx (loN m k) ++ ⟨#[58]⟩ else macL m k ++ hx (hiN m k) ++ hx (loN m k)
def macOKB (m : Int) : Bool := decide (0 ≤ m ∧ m ≤ 281474976710655)
theorem macOKB_iff {m : Int} : macOKB m = true ↔ 0 ≤ m ∧ m ≤ 281474976710655 := by unfold macOKB; simp

attribute [local go_sem] and_255_i64
theorem macOKs_walk (a : Int) (w : World) :
    Calls Try.prog 30 #[.int .i64 a] w fun e w' => e = .returned (.bool (macOKB a)) ∧ w' = w := by
  by_cases h : 0 ≤ a ∧ a ≤ 281474976710655
  · have e := hide (macOKB_iff.2 h)
    go_enter Try.func30, Try.ntmps30
    go_wp2_with (go_at_call 37; refine (In_yes _ _ _ _ h).mono ?_; rintro e w' ⟨rfl, rfl⟩)
    go_ret
    exact ⟨ret_bool e.out.symm, rfl⟩
  · have e : Hid (macOKB a = false) := hide (by unfold macOKB; simpa using h)
    go_enter Try.func30, Try.ntmps30
    go_wp2_with (go_at_call 37; refine (In_no _ _ _ _ h).mono ?_; rintro e w' ⟨rfl, rfl⟩)
    go_ret
    exact ⟨ret_bool e.out.symm, rfl⟩
theorem ret_str {s t : ByteArray} {v : Value} (h : s = t) : Ending.returned (.tuple #[.string s, v]) = .returned (.tuple #[.string t, v]) := by rw [h]
theorem specShow_no (m : Int) (w : World) (h : macOKB m = false) :
    Calls Try.prog 19 #[.int .i64 m] w fun e w' => e = .returned (.tuple #[.string ⟨#[]⟩, .int .i64 1]) ∧ Below w.heap.size w w' := by
  go_enter Try.func19, Try.ntmps19
  go_wp2_with (go_at_call 30; refine (macOKs_walk _ _).mono ?_; rintro e w' ⟨rfl, rfl⟩)
  go_ret2
  exact ⟨rfl, Below.refl _ _⟩
set_option maxHeartbeats 1000000 in
theorem specShow_yes (m : Int) (w : World) (h : macOKB m = true) :
    Calls Try.prog 19 #[.int .i64 m] w fun e w' => e = .returned (.tuple #[.string (macL m 6), .int .i64 0]) ∧ Below w.heap.size w w' := by
  obtain ⟨h0, h1⟩ := macOKB_iff.1 h
  go_enter Try.func19, Try.ntmps19
  go_wp2_with fail
  refine (macOKs_walk _ _).mono ?_
  rw [h]
  rintro e w' ⟨rfl, hw'⟩
  rw [hw']
  clear hw' h
  go_wp2_with fail
  go_loopw [5, 6] (fun o t w2 => ∃ (k : Nat) (b : ByteArray), k ≤ 6 ∧ t = .int .i64 (5 - (k : Int)) ∧ o = .string b ∧ Hid (b = macL m k) ∧ b.size ≤ 3 * k ∧ Below w.heap.size w w2) (fun _ t _ => (intOf t + 1).toNat)
  case atStart => exact ⟨0, ⟨#[]⟩, by omega, by go_num, rfl, hide rfl, by decide, Below.refl _ _⟩
  case round =>
    obtain ⟨k, b, hk, rfl, rfl, HB, hl, hb⟩ := hrel
    by_cases hlt : k < 6
    · have HHI : Hid (hiN m k = (m / 2 ^ (8 * (5 - k)) % 256 / 16).toNat) := rfl
      have HLO : Hid (loN m k = (m / 2 ^ (8 * (5 - k)) % 256 % 16).toNat) := rfl
      go_wp2_with fail
      have hb0 : 0 ≤ m / 2 ^ (8 * (5 - k)) % 256 ∧ m / 2 ^ (8 * (5 - k)) % 256 ≤ 255 := by omega
      generalize m / 2 ^ (8 * (5 - k)) % 256 = nn at *
      obtain ⟨q, hq⟩ := Int.eq_ofNat_of_zero_le (show 0 ≤ nn / 16 by omega)
      obtain ⟨r, hr⟩ := Int.eq_ofNat_of_zero_le (show 0 ≤ nn % 16 by omega)
      have e1 : IntKind.i64.wrap (nn.tdiv 16) = (q : Int) := by rw [Int.tdiv_eq_ediv_of_nonneg (by omega), hq]; exact wrap_i64' _ (by omega) (by omega)
      have e2 : IntKind.i64.wrap ((q : Int) + 1) = (q : Int) + 1 := wrap_i64' _ (by omega) (by omega)
      have e3 : nn.tmod 16 = (r : Int) := by rw [Int.tmod_eq_emod_of_nonneg (by omega), hr]
      have e4 : IntKind.i64.wrap ((r : Int) + 1) = (r : Int) + 1 := wrap_i64' _ (by omega) (by omega)
      have hq16 : q < 16 := by omega
      have hr16 : r < 16 := by omega
      have s1 := slice_hex q hq16
      have s2 := slice_hex r hr16
      have HHI2 : Hid (hx (hiN m k) = hx q) := hide (by rw [HHI.out, hq, Int.toNat_natCast])
      have HLO2 : Hid (hx (loN m k) = hx r) := hide (by rw [HLO.out, hr, Int.toNat_natCast])
      have z1 : (hx q).size ≤ 1 := by rw [hx_size q hq16]; exact Nat.le_refl _
      have z2 : (hx r).size ≤ 1 := by rw [hx_size r hr16]; exact Nat.le_refl _
      generalize hx q = d1 at *
      generalize hx r = d2 at *
      clear hq hr HHI HLO
      go_quiet (fail)
      by_cases h5 : k < 5
      · have HE : Hid (macL m (k + 1) = b ++ d1 ++ d2 ++ ⟨#[58]⟩) := hide (by rw [macL, if_pos h5, HHI2.out, HLO2.out, HB.out])
        have z3 : (b ++ d1 ++ d2 ++ (⟨#[58]⟩ : ByteArray)).size ≤ 3 * (k + 1) := by
          rw [ByteArray.size_append, ByteArray.size_append, ByteArray.size_append]
          have : (⟨#[58]⟩ : ByteArray).size = 1 := rfl
          omega
        have Z3 := hide z3
        clear z3
        go_wp2_with fail
        exact ⟨⟨k + 1, _, by omega, by go_num, rfl, hide HE.out.symm, Z3.out, below_drewN hb nq⟩, by simp [intOf]; omega⟩
      · have HE : Hid (macL m (k + 1) = b ++ d1 ++ d2) := hide (by rw [macL, if_neg h5, HHI2.out, HLO2.out, HB.out])
        have z3 : (b ++ d1 ++ d2).size ≤ 3 * (k + 1) := by
          rw [ByteArray.size_append, ByteArray.size_append]
          omega
        have Z3 := hide z3
        clear z3
        go_wp2_with fail
        exact ⟨⟨k + 1, _, by omega, by go_num, rfl, hide HE.out.symm, Z3.out, below_drewN hb nq⟩, by simp [intOf]; omega⟩
    · have hk6 : k = 6 := by omega
      subst hk6
      go_wp2_with fail
      go_ret2
      exact ⟨ret_str HB.out, hb⟩

theorem step_append_own {P : Program} {ops : Array Oper} {o : Oper} {a : Act} {w : World} {K : Act → World → Prop} {Q : Exit → Act → World → Prop} {E : Prop} (hgd : o.guard = none) (s x : Operand) (t : TypeId)
    (ho : o.op = .call { callee := .builtin .append, args := #[s, x], argTypes := #[t, t] })
    (base : Nat) (e : TypeId) (i : TypeInfo) (z : Value) (size bytes : Nat) (ht : P.underlying t = some (.slice e)) (hi : P.info? e = some i) (hz : i.zero = some z)
    (hsize : i.size = size) (hby : i.bytes = bytes) (hzs : z.cells.size = size) (hsz : 0 < size)
    (v : Value) (n : Nat) (xs : List Value) (hs : a.eval s = v) (hown : w.ownsRow base e size v n xs)
    (ad : Addr) (m c : Nat) (news : List Value) (hx : a.eval x = .slice (some ad) m c) (hl : news.length = m * size) (hnews : ∀ j u, news[j]? = some u → w.cell? (ad.add j) = some u) (h1 : ∀ u ∈ news, u.oneCell' = true)
    (h63 : n + m ≤ maxLen) (hbytes : (n + m) * bytes ≤ 140737488355328) (hbase : base ≤ w.heap.size)
    (h : ∀ v' w', w'.ownsRow base e size v' (n + m) (xs ++ news) → w.grownBy w' v.ownBlock → (v' = .slice none 0 0 ↔ v = .slice none 0 0 ∧ m = 0) → K (a.put o.dst v') w') :
    if Region.wanted o (yielded ops a.tmps) = true then Oper.wp P o a w K Q else E := by
  have hw : Region.wanted o (yielded ops a.tmps) = true := by simp [Region.wanted, hgd]
  rw [if_pos hw]
  exact wp_append_own w s x t ho base e i z size bytes ht hi hz hsize hby hzs hsz v n xs hs hown ad m c news hx hl hnews h1 h63 hbytes hbase h

theorem Try.infoB : (Try.prog.info? 5).map (fun i => (i.zero, i.size, i.bytes)) = some (some (.int .u8 0), 1, 1) := by kernel_rfl
def bval (zs : List Int) : List Value := zs.map (Value.int .u8)
/-- A slice of bytes zs in memory of this call's own, from block B on. -/
def OwnB (w : World) (B : Nat) (v : Value) (zs : List Int) : Prop := w.ownsRow B 5 1 v zs.length (bval zs) ∧ ∀ z ∈ zs, 0 ≤ z ∧ z ≤ 255
theorem bval_get (zs : List Int) (j : Nat) (h : j < zs.length) : (bval zs)[j]? = some (.int .u8 (zs.getD j 0)) := by
  unfold bval; rw [List.getElem?_map, List.getElem?_eq_getElem h, List.getD_eq_getElem?_getD, List.getElem?_eq_getElem h]; rfl
theorem OwnB.arr {w : World} {B : Nat} {v : Value} {zs : List Int} (h : OwnB w B v zs) : ∃ a cap, v = .slice a zs.length cap ∧ Arr w a zs ∧ zs.length ≤ cap := by
  rcases h.1.2 with ⟨hv, hn⟩ | ⟨g, cap, cur, hv, hB, hg, hnc, hcm, hcs, htake⟩
  · have : zs = [] := List.length_eq_zero_iff.1 hn
    subst this
    exact ⟨none, 0, hv, ⟨by simp, fun j hj => by simp at hj⟩, Nat.le_refl _⟩
  · refine ⟨some ⟨g, 0, none⟩, cap, hv, ⟨h.2, fun j hj => ⟨g, 0, rfl, ?_, ?_⟩⟩, hnc⟩
    · by_cases hlt : g < w.heap.size
      · exact hlt
      · rw [Array.getElem?_eq_none (by omega)] at hg; cases hg
    · have hc := (hv ▸ h.1 : w.ownsRow B 5 1 (.slice (some ⟨g, 0, none⟩) zs.length cap) zs.length (bval zs)).cellAt j (by omega)
      rw [Nat.zero_add, hc, bval_get zs j hj]
theorem oneCells (zs : List Int) : ∀ u ∈ bval zs, u.oneCell' = true := by
  intro u hu
  unfold bval at hu
  obtain ⟨z, _, rfl⟩ := List.mem_map.1 hu
  rfl
theorem OwnB.app {w : World} {B : Nat} {v : Value} {xs ys : List Int} {n : Nat} (h : w.ownsRow B 5 1 v n (bval xs ++ bval ys)) (hn : n = xs.length + ys.length) (hx : ∀ z ∈ xs, 0 ≤ z ∧ z ≤ 255) (hy : ∀ z ∈ ys, 0 ≤ z ∧ z ≤ 255) : OwnB w B v (xs ++ ys) := by
  refine ⟨?_, fun z hz => ?_⟩
  · have e : bval (xs ++ ys) = bval xs ++ bval ys := by unfold bval; rw [List.map_append]
    rw [e, List.length_append, ← hn]; exact h
  · rcases List.mem_append.1 hz with h | h
    · exact hx z h
    · exact hy z h
theorem news_arr {w : World} {b off : Nat} {zs : List Int} (h : Arr w (some ⟨b, off, none⟩) zs) : ∀ j u, (bval zs)[j]? = some u → w.cell? ((⟨b, off, none⟩ : Addr).add j) = some u := by
  intro j u hu
  have hj : j < zs.length := by
    have := (List.getElem?_eq_some_iff.1 hu).1
    simpa [bval] using this
  obtain ⟨b', off', e, _, hc⟩ := h.2 j hj
  simp only [Option.some.injEq, Addr.mk.injEq, and_true] at e
  obtain ⟨rfl, rfl⟩ := e
  rw [bval_get zs j hj] at hu
  rw [Addr.add_lit, hc]; exact hu
theorem cell_one (w : World) (z : Int) (t : Nat) : ∀ j u, (bval [z])[j]? = some u → (w.alloc (.cells #[.int .u8 z] t)).cell? ((⟨w.heap.size, 0, none⟩ : Addr).add j) = some u := by
  intro j u hu
  match j with
  | 0 =>
    simp [bval] at hu
    subst hu
    rw [Addr.add_lit]
    exact cell_of_row _ w.heap.size 0 _ t (0, 0) (heap_alloc_new w _)
  | k + 1 => simp [bval] at hu

theorem own6 (w : World) (z : Value) (e : Nat) : ((w.alloc (.cells #[z, z, z, z, z, z] e)).alloc (.cells #[z, z, z, z, z, z] e)).ownsRow (w.heap.size + 1) e 1 (.slice (some ⟨w.heap.size + 1, 0, none⟩) 6 6) 6 [z, z, z, z, z, z] := by
  have h := World.ownsRow_lit (base := w.heap.size + 1) (e := e) (size := 1) (w.alloc (.cells #[z, z, z, z, z, z] e)) #[z, z, z, z, z, z] 6 (by simp) (by decide) rfl
  simpa using h
theorem heap2m (w : World) (a b : Obj) : ((w.alloc a).alloc b).heap[w.heap.size]? = some a := by
  rw [Below.heap_alloc (w.alloc a) b w.heap.size (by rw [World.size_alloc]; omega)]; exact heap_alloc_new w a
theorem below_alloc2 (w : World) (a b : Obj) : Below w.heap.size w ((w.alloc a).alloc b) := ((Below.refl _ _).alloc (Nat.le_refl _) _).alloc (by simp) _
set_option maxHeartbeats 1000000 in
theorem splitMac_walk (v : Int) (w : World) :
    Calls Try.prog 32 #[.int .i64 v] w fun e w' => e = .returned (.agg #[.int .u8 (byteOf v 6 0), .int .u8 (byteOf v 6 1), .int .u8 (byteOf v 6 2), .int .u8 (byteOf v 6 3), .int .u8 (byteOf v 6 4), .int .u8 (byteOf v 6 5)]) ∧ Below w.heap.size w w' := by
  go_enter Try.func32, Try.ntmps32
  go_wp2_with fail
  refine (putNumber_walk (w.heap.size + 1) 6 v 37 _ _ (by omega) (own6 w _ _)).mono ?_
  rintro e w1 ⟨rfl, hg, xs, hown, hx⟩
  have c0 := (hown.cellAt 0 (by omega)).trans (hx 0 (by omega))
  have c1 := (hown.cellAt 1 (by omega)).trans (hx 1 (by omega))
  have c2 := (hown.cellAt 2 (by omega)).trans (hx 2 (by omega))
  have c3 := (hown.cellAt 3 (by omega)).trans (hx 3 (by omega))
  have c4 := (hown.cellAt 4 (by omega)).trans (hx 4 (by omega))
  have c5 := (hown.cellAt 5 (by omega)).trans (hx 5 (by omega))
  have hblk : w1.heap[w.heap.size]? = some (.cells #[.int .u8 0, .int .u8 0, .int .u8 0, .int .u8 0, .int .u8 0, .int .u8 0] 37) := by
    rw [hg.block w.heap.size (by rw [World.size_alloc, World.size_alloc]; omega) (by simp)]; exact heap2m w _ _
  have hbel : Below w.heap.size w w1 := (below_alloc2 w _ _).grown hg (by rw [World.size_alloc, World.size_alloc]; omega) (fun k hk => by cases hk; omega)
  have hz : w.heap.size + 1 < w1.heap.size := by have := hg.size; simp at this; omega
  have d : ∀ o, o < 6 → w1.cell? ⟨w.heap.size, o, none⟩ = some (.int .u8 0) := by
    intro o ho
    rw [cell_of_row w1 w.heap.size o _ _ _ hblk]
    match o, ho with
    | 0, _ => rfl
    | 1, _ => rfl
    | 2, _ => rfl
    | 3, _ => rfl
    | 4, _ => rfl
    | 5, _ => rfl
  have f : ∀ o, w1.frozen? ⟨w.heap.size, o, none⟩ = false := fun o => frozen_of_row w1 w.heap.size o _ _ hblk
  have d0 := d 0 (by omega)
  have d1 := d 1 (by omega)
  have d2 := d 2 (by omega)
  have d3 := d 3 (by omega)
  have d4 := d 4 (by omega)
  have d5 := d 5 (by omega)
  have HO := hide hown
  clear hown hx hg hblk d
  go_wp2
  exact bodyPost_ret (v := .agg #[.int .u8 (byteOf v 6 0), .int .u8 (byteOf v 6 1), .int .u8 (byteOf v 6 2), .int .u8 (byteOf v 6 3), .int .u8 (byteOf v 6 4), .int .u8 (byteOf v 6 5)]) (by simp [results, Try.results32, go_sem, d0, d1, d2, d3, d4, d5]) rfl ⟨rfl, ((((((hbel.setCell (Nat.le_refl _) _).setCell (Nat.le_refl _) _).setCell (Nat.le_refl _) _).setCell (Nat.le_refl _) _).setCell (Nat.le_refl _) _).setCell (Nat.le_refl _) _)⟩
end Go.Proofs.Ytmgjagajcmeikab
