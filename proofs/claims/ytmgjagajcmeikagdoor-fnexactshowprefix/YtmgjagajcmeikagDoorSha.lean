/-
Contracts of functions of this seat.
-/
import Derived.Test.YtmgjagajcmeikagDoorRows
import Derived.WalkKit
import Derived.ProofKit
import Derived.OpenShut
import Derived.Deep.QuietTactic
import Derived.Below
import Derived.OwnWalk
import Derived.BigQuiet
import Derived.Laws.IdiomStrings
import Derived.RegionTactic
import Derived.Deep.RegionWith
import Derived.ArgAppend
import Derived.Deep.RegionLaw
import Derived.Laws.AppendOwn
namespace Go.Proofs.YtmgjagajcmeikagDoor
open Go.ChangeShapes Go.WideShapes Go.ChangeAt Go.RowKit
set_option linter.unusedVariables false
theorem i64_bd {a : Int} (h : (Lit.int .i64 a).wf = true) : -9223372036854775808 ≤ a ∧ a ≤ 9223372036854775807 := by
  simpa [Lit.wf, IntKind.min, IntKind.max, IntKind.signed, IntKind.bits] using h
theorem ret_int {k : IntKind} {a b : Int} (h : a = b) : Ending.returned (.int k a) = .returned (.int k b) := by rw [h]
theorem ret_bool {a b : Bool} (h : a = b) : Ending.returned (.bool a) = .returned (.bool b) := by rw [h]
theorem hide {P : Prop} (h : P) : Hid P := h
theorem below_drewN {B : Nat} {a w : World} (h : Below B a w) (n : Nat) : Below B a (w.drewN n) := ⟨h.os, h.tape, h.output, h.size, h.block⟩
theorem below_undrew {B : Nat} {w w' : World} (h : Below B w.drew w') : Below B w w' := ⟨h.os, h.tape, h.output, h.size, h.block⟩

/-- 'x & (2^i - 1)' is x modulo 2^i, also of a number below 0. -/
theorem and_mask (k : IntKind) (i : Nat) (hi : i ≤ k.bits) (hk : ∀ n : Int, 0 ≤ n → n < 2 ^ i → k.wrap n = n) (x : Int) :
    bits .and k x ((2 ^ i - 1 : Nat) : Int) = x % 2 ^ i := by
  have hpos : 0 < 2 ^ i := Nat.two_pow_pos i
  have hle : 2 ^ i ≤ 2 ^ k.bits := Nat.pow_le_pow_right (by decide) hi
  have hm : (2 ^ i - 1) % 2 ^ k.bits = 2 ^ i - 1 := Nat.mod_eq_of_lt (by omega)
  have hd : (2 ^ i : Int) ∣ 2 ^ k.bits := by
    obtain ⟨c, hc⟩ := Nat.pow_dvd_pow 2 hi
    exact ⟨(c : Int), by exact_mod_cast hc⟩
  have hx : (((x % (2 ^ k.bits : Nat)).toNat % 2 ^ i : Nat) : Int) = x % 2 ^ i := by
    have h0 : 0 ≤ x % ((2 ^ k.bits : Nat) : Int) := Int.emod_nonneg _ (by have := Nat.two_pow_pos k.bits; omega)
    rw [Int.natCast_emod, Int.toNat_of_nonneg h0]
    push_cast
    exact Int.emod_emod_of_dvd x hd
  have hn : (x % (2 ^ k.bits : Nat)).toNat &&& (2 ^ i - 1) = (x % (2 ^ k.bits : Nat)).toNat % 2 ^ i := Nat.and_two_pow_sub_one_eq_mod _ _
  simp only [bits, BitVec.ofInt_natCast, BitVec.toNat_and, BitVec.toNat_ofNat, BitVec.toNat_ofInt, hm, hn, hx]
  exact hk _ (Int.emod_nonneg _ (by have : (0 : Int) < 2 ^ i := by exact_mod_cast hpos
                                    omega)) (Int.emod_lt_of_pos _ (by exact_mod_cast hpos))
theorem wrap_i64' (n : Int) (h0 : 0 ≤ n) (h1 : n ≤ 9223372036854775807) : IntKind.i64.wrap n = n := by rw [IntKind.wrap_i64]; omega
theorem wrap_u64 (n : Int) : IntKind.u64.wrap n = n % 18446744073709551616 := by simp [IntKind.wrap, IntKind.bits, IntKind.signed]
theorem wrap_u16 (n : Int) : IntKind.u16.wrap n = n % 65536 := by simp [IntKind.wrap, IntKind.bits, IntKind.signed]
theorem and_65535_i64 (x : Int) : bits .and .i64 x 65535 = x % 65536 :=
  and_mask .i64 16 (by decide) (fun n h0 h1 => wrap_i64' n h0 (by omega)) x
theorem and_255_i64 (x : Int) : bits .and .i64 x 255 = x % 256 :=
  and_mask .i64 8 (by decide) (fun n h0 h1 => wrap_i64' n h0 (by omega)) x
theorem and_1_i64 (x : Int) : bits .and .i64 x 1 = x % 2 :=
  and_mask .i64 1 (by decide) (fun n h0 h1 => wrap_i64' n h0 (by omega)) x
theorem and_65535_u64 (x : Int) : bits .and .u64 x 65535 = x % 65536 :=
  and_mask .u64 16 (by decide) (fun n h0 h1 => by rw [wrap_u64]; omega) x
theorem and_1_u32 (x : Int) : bits .and .u32 x 1 = x % 2 :=
  and_mask .u32 1 (by decide) (fun n h0 h1 => by rw [IntKind.wrap_u32]; omega) x
theorem and_15_u8 (x : Int) : bits .and .u8 x 15 = x % 16 :=
  and_mask .u8 4 (by decide) (fun n h0 h1 => by rw [IntKind.wrap_u8]; omega) x
/-- '^x' of an unsigned number: what is lacking to the greatest. -/
theorem not_of (k : IntKind) (hu : k.signed = false) (x : Int) (h0 : 0 ≤ x) (h1 : x < 2 ^ k.bits) : bits .xor k k.max x = k.max - x := by
  obtain ⟨a, rfl⟩ := Int.eq_ofNat_of_zero_le h0
  have ha : a < 2 ^ k.bits := by exact_mod_cast h1
  have hpos : 0 < 2 ^ k.bits := Nat.two_pow_pos _
  have hmax : k.max = ((2 ^ k.bits - 1 : Nat) : Int) := by
    unfold IntKind.max
    rw [if_neg (by simp [hu]), Int.natCast_sub hpos]; simp
  have hall : BitVec.ofInt k.bits k.max = BitVec.allOnes k.bits := by
    rw [hmax, BitVec.ofInt_natCast]; apply BitVec.eq_of_toNat_eq; simp
  have hw : ∀ n : Nat, n < 2 ^ k.bits → k.wrap n = n := by
    intro n hn
    unfold IntKind.wrap
    simp only [hu, Bool.false_and]
    rw [if_neg (by simp)]
    exact_mod_cast Nat.mod_eq_of_lt hn
  unfold bits
  simp only [hall, BitVec.allOnes_xor, BitVec.toNat_not, BitVec.ofInt_natCast, BitVec.toNat_ofNat, Nat.mod_eq_of_lt ha]
  rw [hw _ (by omega), hmax]
  omega
theorem not_u16 (n : Int) : bits .xor .u16 IntKind.u16.max (n % 65536) = 65535 - n % 65536 :=
  not_of .u16 rfl (n % 65536) (by omega) (by show _ < (65536 : Int); omega)
theorem not_u32 (n : Int) (h0 : 0 ≤ n) (h1 : n < 4294967296) : bits .xor .u32 IntKind.u32.max n = 4294967295 - n :=
  not_of .u32 rfl n h0 (by show _ < (4294967296 : Int); omega)
theorem signed_u16 : IntKind.u16.signed = false := rfl
theorem signed_u32 : IntKind.u32.signed = false := rfl

/-- The bytes of a slice whose array begins at a: zs, from the first on. -/
def Arr (w : World) (a : Option Addr) (zs : List Int) : Prop :=
  (∀ z ∈ zs, 0 ≤ z ∧ z ≤ 255) ∧ ∀ j, j < zs.length → ∃ b off, a = some ⟨b, off, none⟩ ∧ b < w.heap.size ∧ w.cell? ⟨b, off + j, none⟩ = some (.int .u8 (zs.getD j 0))
theorem Arr.below {B : Nat} {w w' : World} {a : Option Addr} {zs : List Int} (h : Arr w a zs) (hb : Below B w w') (hB : w.heap.size ≤ B) : Arr w' a zs := by
  refine ⟨h.1, fun j hj => ?_⟩
  obtain ⟨b, off, ha, hlt, hc⟩ := h.2 j hj
  exact ⟨b, off, ha, by have := hb.size; omega, by rw [hb.cell (p := ⟨b, off + j, none⟩) (by show b < B; omega)]; exact hc⟩
theorem getD_bd {zs : List Int} (h : ∀ z ∈ zs, 0 ≤ z ∧ z ≤ 255) (j : Nat) : 0 ≤ zs.getD j 0 ∧ zs.getD j 0 ≤ 255 := by
  by_cases hj : j < zs.length
  · rw [List.getD_eq_getElem?_getD, List.getElem?_eq_getElem hj]; exact h _ (List.getElem_mem hj)
  · rw [List.getD_eq_getElem?_getD, List.getElem?_eq_none (by omega)]; simp
theorem grown_trans {a b c : World} {row : Option Nat} (h : a.grownBy b row) (k : b.grownBy c row) : a.grownBy c row :=
  ⟨k.os.trans h.os, k.tape.trans h.tape, k.output.trans h.output, Nat.le_trans h.size k.size, fun i hi hr => (k.block i (Nat.lt_of_lt_of_le hi h.size) hr).trans (h.block i hi hr)⟩

theorem In_yes (n a b : Int) (w : World) (h : a ≤ n ∧ n ≤ b) :
    Calls Tryd.prog 14 #[.int .i64 n, .int .i64 a, .int .i64 b] w fun e w' => e = .returned (.bool true) ∧ w' = w := by
  obtain ⟨h1, h2⟩ := h
  go_enter Tryd.func14, Tryd.ntmps14
  go_wp2
  go_ret
  exact ⟨rfl, rfl⟩
theorem In_no (n a b : Int) (w : World) (h : ¬ (a ≤ n ∧ n ≤ b)) :
    Calls Tryd.prog 14 #[.int .i64 n, .int .i64 a, .int .i64 b] w fun e w' => e = .returned (.bool false) ∧ w' = w := by
  by_cases h1 : a ≤ n
  · have h2 : ¬ n ≤ b := fun h2 => h ⟨h1, h2⟩
    clear h
    go_enter Tryd.func14, Tryd.ntmps14
    go_wp2
    go_ret
    exact ⟨rfl, rfl⟩
  · clear h
    go_enter Tryd.func14, Tryd.ntmps14
    go_wp2
    go_ret
    exact ⟨rfl, rfl⟩

/-- It is an address. -/
def adrB (a : Int) : Bool := decide (0 ≤ a ∧ a ≤ 4294967295)
theorem adrB_iff {a : Int} : adrB a = true ↔ 0 ≤ a ∧ a ≤ 4294967295 := by unfold adrB; simp

theorem specAddrOK_walk (a : Int) (w : World) :
    Calls Tryd.prog 13 #[.int .i64 a] w fun e w' => e = .returned (.bool (adrB a)) ∧ w' = w := by
  by_cases h : 0 ≤ a ∧ a ≤ 4294967295
  · have e := hide (adrB_iff.2 h)
    go_enter Tryd.func13, Tryd.ntmps13
    go_wp2_with (go_at_call 14; refine (In_yes _ _ _ _ h).mono ?_; rintro e w' ⟨rfl, rfl⟩)
    go_ret
    exact ⟨ret_bool e.out.symm, rfl⟩
  · have e : Hid (adrB a = false) := hide (by unfold adrB; simpa using h)
    go_enter Tryd.func13, Tryd.ntmps13
    go_wp2_with (go_at_call 14; refine (In_no _ _ _ _ h).mono ?_; rintro e w' ⟨rfl, rfl⟩)
    go_ret
    exact ⟨ret_bool e.out.symm, rfl⟩

theorem isAddr_walk (a : Int) (w : World) :
    Calls Tryd.prog 16 #[.int .i64 a] w fun e w' => e = .returned (.bool (adrB a)) ∧ w' = w := by
  by_cases h1 : 0 ≤ a
  · by_cases h2 : a ≤ 4294967295
    · have e := hide (adrB_iff.2 ⟨h1, h2⟩)
      go_enter Tryd.func16, Tryd.ntmps16
      go_wp2
      go_ret
      exact ⟨ret_bool e.out.symm, rfl⟩
    · have e : Hid (adrB a = false) := hide (by unfold adrB; simp; omega)
      go_enter Tryd.func16, Tryd.ntmps16
      go_wp2
      go_ret
      exact ⟨ret_bool e.out.symm, rfl⟩
  · have e : Hid (adrB a = false) := hide (by unfold adrB; simp; omega)
    go_enter Tryd.func16, Tryd.ntmps16
    go_wp2
    go_ret
    exact ⟨ret_bool e.out.symm, rfl⟩

theorem bcell {W w1 : World} (hb : Below W.heap.size W w1) : (∀ b o, b < W.heap.size → w1.cell? ⟨b, o, none⟩ = W.cell? ⟨b, o, none⟩) ∧ (∀ b o, b < W.heap.size → w1.frozen? ⟨b, o, none⟩ = W.frozen? ⟨b, o, none⟩) :=
  ⟨fun b o h => hb.cell (p := ⟨b, o, none⟩) h, fun b o h => hb.frozen (p := ⟨b, o, none⟩) h⟩
/-- The digit's byte. -/
def dg (n : Int) : UInt8 := UInt8.ofNat (48 + n.toNat)
theorem conv1 (n : Int) (h0 : 0 ≤ n) (h1 : n < 10) (g : Nat) (w : World) (hc : w.cell? ⟨g, 0, none⟩ = some (.int .u8 (48 + n))) :
    (convert 37 9 (.slice (some ⟨g, 0, none⟩) 1 1)).run Tryd.prog w = .ok (.string ⟨#[dg n]⟩) w := by
  have h := run_convert_bytes_back (P := Tryd.prog) w 37 9 5 ⟨g, 0, none⟩ 1 [dg n] Tryd.underlying37 Tryd.underlying5 Tryd.underlying9 (by
    intro j hj
    match j, hj with
    | 0, _ =>
      rw [Addr.add_zero', hc]
      congr 2
      show 48 + n = ((UInt8.ofNat (48 + n.toNat)).toNat : Int)
      rw [UInt8.toNat_ofNat']
      omega)
  exact h
theorem dec_small (n : Int) (w : World) (h0 : 0 ≤ n) (h1 : n < 10) :
    Calls Tryd.prog 9 #[.int .i64 n] w fun e w' => e = .returned (.string ⟨#[dg n]⟩) ∧ Below w.heap.size w w' := by
  have hconv := conv1 n h0 h1
  go_enter Tryd.func9, Tryd.ntmps9
  go_wp2
  go_ret
  exact ⟨rfl, (Below.refl _ _).alloc (Nat.le_refl _) _⟩
/-- The text of a number below 1000. -/
def decL (n : Int) : Array UInt8 :=
  if n < 10 then #[dg n] else if n < 100 then #[dg (n / 10), dg (n % 10)] else #[dg (n / 100), dg (n / 10 % 10), dg (n % 10)]
theorem decL_one {n : Int} (h : n < 10) : decL n = #[dg n] := by unfold decL; rw [if_pos h]
theorem decL_more {n : Int} (h0 : 10 ≤ n) (h : n < 1000) : (⟨decL (n / 10)⟩ : ByteArray) ++ (⟨#[dg (n % 10)]⟩ : ByteArray) = ⟨decL n⟩ := by
  unfold decL
  by_cases h1 : n < 100
  · rw [if_pos (by omega), if_neg (by omega), if_pos h1]; rfl
  · rw [if_neg (by omega), if_pos (by omega), if_neg (by omega), if_neg h1]
    rw [show n / 10 / 10 = n / 100 by omega]; rfl
theorem decL_size {n : Int} : (⟨decL n⟩ : ByteArray).size ≤ 3 := by
  unfold decL
  split
  · show 1 ≤ 3; decide
  · split
    · show 2 ≤ 3; decide
    · show 3 ≤ 3; decide
set_option maxHeartbeats 400000 in
theorem dec_step (n : Int) (w : World) (t r : ByteArray) (ht : t.size ≤ 3) (h0 : 10 ≤ n) (h1 : n < 1000) (ih : ∀ w, Calls Tryd.prog 9 #[.int .i64 (n / 10)] w fun e w' => e = .returned (.string t) ∧ Below w.heap.size w w') (hr : t ++ (⟨#[dg (n % 10)]⟩ : ByteArray) = r) :
    Calls Tryd.prog 9 #[.int .i64 n] w fun e w' => e = .returned (.string r) ∧ Below w.heap.size w w' := by
  have hconv := conv1 (n % 10) (by omega) (by omega)
  have hd : (⟨#[dg (n % 10)]⟩ : ByteArray).size = 1 := rfl
  generalize (⟨#[dg (n % 10)]⟩ : ByteArray) = d at *
  have hds : d.size ≤ 1 := by omega
  have e1 : IntKind.i64.wrap (n.tdiv 10) = n / 10 := by rw [Int.tdiv_eq_ediv_of_nonneg (by omega)]; exact wrap_i64' _ (by omega) (by omega)
  have e2 : n.tmod 10 = n % 10 := Int.tmod_eq_emod_of_nonneg (by omega)
  have e3 : IntKind.i64.wrap (48 + n % 10) = 48 + n % 10 := wrap_i64' _ (by omega) (by omega)
  have e4 : IntKind.u8.wrap (48 + n % 10) = 48 + n % 10 := by rw [IntKind.wrap_u8]; omega
  have IH := hide ih
  have HR := hide hr
  clear ih hr hd
  go_enter Tryd.func9, Tryd.ntmps9
  go_wp2_with fail
  go_region_with (first | (go_at_call 9; refine (IH.out _).mono ?_; rintro e w' ⟨rfl, hbel⟩; obtain ⟨hcc, hff⟩ := bcell hbel))
  all_goals
    go_wp2
    go_ret
    refine ⟨by rw [← HR.out]; rfl, ?_⟩
    first
      | exact Below.alloc (w := w') (show Below w.heap.size w w' from below_undrew hbel) hbel.size _
      | exact Below.trans ((Below.refl w.heap.size w).alloc (Nat.le_refl _) (.cells #[.int .u8 (48 + n % 10)] 5)) ((show Below (w.alloc (.cells #[.int .u8 (48 + n % 10)] 5)).heap.size (w.alloc (.cells #[.int .u8 (48 + n % 10)] 5)) w' from below_undrew hbel).mono (by rw [World.size_alloc]; omega))
theorem dec_walk (n : Int) (w : World) (h0 : 0 ≤ n) (h1 : n < 1000) :
    Calls Tryd.prog 9 #[.int .i64 n] w fun e w' => e = .returned (.string ⟨decL n⟩) ∧ Below w.heap.size w w' := by
  have one : ∀ (n : Int) (w : World), 0 ≤ n → n < 10 → Calls Tryd.prog 9 #[.int .i64 n] w fun e w' => e = .returned (.string ⟨decL n⟩) ∧ Below w.heap.size w w' := fun n w a b => by
    have h := dec_small n w a b
    rw [← decL_one b] at h; exact h
  have two : ∀ (n : Int) (w : World), 0 ≤ n → n < 100 → Calls Tryd.prog 9 #[.int .i64 n] w fun e w' => e = .returned (.string ⟨decL n⟩) ∧ Below w.heap.size w w' := fun n w a b => by
    by_cases h : n < 10
    · exact one n w a h
    · exact dec_step n w ⟨decL (n / 10)⟩ ⟨decL n⟩ decL_size (by omega) (by omega) (fun w => one (n / 10) w (by omega) (by omega)) (decL_more (by omega) (by omega))
  by_cases h : n < 10
  · exact one n w h0 h
  · exact dec_step n w ⟨decL (n / 10)⟩ ⟨decL n⟩ decL_size (by omega) h1 (fun w => two (n / 10) w (by omega) (by omega)) (decL_more (by omega) h1)

attribute [local go_sem] and_255_i64
/-- The text of an address. -/
def showA (a : Int) : ByteArray :=
  (⟨decL (a / 16777216)⟩ : ByteArray) ++ ⟨#[46]⟩ ++ ⟨decL (a / 65536 % 256)⟩ ++ ⟨#[46]⟩ ++ ⟨decL (a / 256 % 256)⟩ ++ ⟨#[46]⟩ ++ ⟨decL (a % 256)⟩
theorem showA_size (a : Int) : (showA a).size ≤ 15 := by
  unfold showA
  rw [ByteArray.size_append, ByteArray.size_append, ByteArray.size_append, ByteArray.size_append, ByteArray.size_append, ByteArray.size_append]
  have h1 := decL_size (n := a / 16777216)
  have h2 := decL_size (n := a / 65536 % 256)
  have h3 := decL_size (n := a / 256 % 256)
  have h4 := decL_size (n := a % 256)
  have h5 : (⟨#[46]⟩ : ByteArray).size = 1 := rfl
  omega
theorem specShowA_no (a : Int) (w : World) (h : adrB a = false) :
    Calls Tryd.prog 8 #[.int .i64 a] w fun e w' => e = .returned (.tuple #[.string ⟨#[]⟩, .int .i64 1]) ∧ w' = w := by
  go_enter Tryd.func8, Tryd.ntmps8
  go_wp2_with (go_at_call 13; refine (specAddrOK_walk _ _).mono ?_; rintro e w' ⟨rfl, rfl⟩)
  go_ret2
  exact ⟨rfl, rfl⟩
set_option maxHeartbeats 1000000 in
theorem specShowA_yes (a : Int) (w : World) (h : adrB a = true) :
    Calls Tryd.prog 8 #[.int .i64 a] w fun e w' => e = .returned (.tuple #[.string (showA a), .int .i64 0]) ∧ Below w.heap.size w w' := by
  obtain ⟨h0, h1⟩ := adrB_iff.1 h
  have z1 := decL_size (n := a / 16777216)
  have z2 := decL_size (n := a / 65536 % 256)
  have z3 := decL_size (n := a / 256 % 256)
  have z4 := decL_size (n := a % 256)
  have c1 := fun w => dec_walk (a / 16777216) w (by omega) (by omega)
  have c2 := fun w => dec_walk (a / 65536 % 256) w (by omega) (by omega)
  have c3 := fun w => dec_walk (a / 256 % 256) w (by omega) (by omega)
  have c4 := fun w => dec_walk (a % 256) w (by omega) (by omega)
  have HE : Hid (showA a = (⟨decL (a / 16777216)⟩ : ByteArray) ++ ⟨#[46]⟩ ++ ⟨decL (a / 65536 % 256)⟩ ++ ⟨#[46]⟩ ++ ⟨decL (a / 256 % 256)⟩ ++ ⟨#[46]⟩ ++ ⟨decL (a % 256)⟩) := rfl
  generalize (⟨decL (a / 16777216)⟩ : ByteArray) = t1 at *
  generalize (⟨decL (a / 65536 % 256)⟩ : ByteArray) = t2 at *
  generalize (⟨decL (a / 256 % 256)⟩ : ByteArray) = t3 at *
  generalize (⟨decL (a % 256)⟩ : ByteArray) = t4 at *
  have C1 := hide c1
  have C2 := hide c2
  have C3 := hide c3
  have C4 := hide c4
  clear c1 c2 c3 c4
  go_enter Tryd.func8, Tryd.ntmps8
  go_wp2_with fail
  refine (specAddrOK_walk _ _).mono ?_
  rw [h]
  rintro e w0 ⟨rfl, hw0⟩
  rw [hw0]
  clear hw0
  go_wp2_with fail
  refine (C1.out _).mono ?_
  rintro e w1 ⟨rfl, hb1⟩
  go_wp2_with fail
  refine (C2.out _).mono ?_
  rintro e w2 ⟨rfl, hb2⟩
  go_wp2_with fail
  refine (C3.out _).mono ?_
  rintro e w3 ⟨rfl, hb3⟩
  go_wp2_with fail
  refine (C4.out _).mono ?_
  rintro e w4 ⟨rfl, hb4⟩
  go_wp2_with fail
  go_ret2
  have s1 := hb1.size
  have s2 := hb2.size
  have s3 := hb3.size
  exact ⟨by rw [HE.out]; rfl, ((hb1.trans (hb2.mono (by omega))).trans (hb3.mono (by omega))).trans (hb4.mono (by omega))⟩

/-- The j-th of n bytes of v, the highest first. -/
def byteOf (v : Int) (n j : Nat) : Int := v / 2 ^ (8 * (n - 1 - j)) % 256
theorem byteOf_bd (v : Int) (n j : Nat) : 0 ≤ byteOf v n j ∧ byteOf v n j ≤ 255 := by unfold byteOf; omega
theorem putNumber_walk (g n : Nat) (v : Int) (e : Nat) (xs0 : List Value) (w : World) (hn : n ≤ 8) (hown : w.ownsRow g e 1 (.slice (some ⟨g, 0, none⟩) n n) n xs0) :
    Calls Tryd.prog 22 #[.slice (some ⟨g, 0, none⟩) n n, .int .i64 v] w fun e' w' => e' = .returned (.tuple #[]) ∧ w.grownBy w' (some g) ∧
      ∃ xs, w'.ownsRow g e 1 (.slice (some ⟨g, 0, none⟩) n n) n xs ∧ ∀ j, j < n → xs[j]? = some (.int .u8 (byteOf v n j)) := by
  have HO := hide hown
  clear hown
  go_enter Tryd.func22, Tryd.ntmps22
  go_wp2_with fail
  go_loopw [7] (fun t w2 => ∃ (k : Nat) (xs : List Value), k ≤ n ∧ t = .int .i64 k ∧ w.grownBy w2 (some g) ∧ Hid (w2.ownsRow g e 1 (.slice (some ⟨g, 0, none⟩) n n) n xs) ∧ Hid (∀ j, n - k ≤ j → j < n → xs[j]? = some (.int .u8 (byteOf v n j)))) (fun t _ => n - (intOf t).toNat)
  case atStart => exact ⟨0, xs0, Nat.zero_le _, rfl, World.grownBy.refl _ _, HO, hide (fun j h1 h2 => absurd h2 (by omega))⟩
  case round =>
    obtain ⟨k, xs, hk, rfl, hb, HO2, HX⟩ := hrel
    by_cases hlt : k < n
    · have hl : xs.length = n := by have := HO2.out.1; omega
      have hf : wr.frozen? ⟨g, n - 1 - k, none⟩ = false := HO2.out.frozenAt _
      obtain ⟨old, hc3⟩ : ∃ old, wr.cell? ⟨g, n - 1 - k, none⟩ = some old := ⟨_, by rw [HO2.out.cellAt _ (by omega)]; exact List.getElem?_eq_getElem (by omega)⟩
      have HL := hide hl
      clear hl
      go_wp2
      have hst := HO2.out.stored (n - 1 - k) (.int .u8 (v / 2 ^ (8 * k) % 256))
      refine ⟨⟨k + 1, _, by omega, by go_num, grown_trans hb hst.2, hide hst.1, hide (fun j h1 h2 => ?_)⟩, by simp [intOf]; omega⟩
      by_cases ej : j = n - 1 - k
      · subst ej
        have hl := HL.out
        rw [List.getElem?_set_self (by omega)]
        unfold byteOf
        rw [show n - 1 - (n - 1 - k) = k by omega]
      · rw [List.getElem?_set_ne (fun h => ej h.symm)]
        exact HX.out j (by omega) h2
    · go_wp2
      go_end0
      exact ⟨rfl, hb, xs, HO2.out, fun j hj => HX.out j (by omega) hj⟩

theorem own4 (w : World) (z : Value) (e : Nat) : ((w.alloc (.cells #[z, z, z, z] e)).alloc (.cells #[z, z, z, z] e)).ownsRow (w.heap.size + 1) e 1 (.slice (some ⟨w.heap.size + 1, 0, none⟩) 4 4) 4 [z, z, z, z] := by
  have h := World.ownsRow_lit (base := w.heap.size + 1) (e := e) (size := 1) (w.alloc (.cells #[z, z, z, z] e)) #[z, z, z, z] 4 (by simp) (by decide) rfl
  simpa using h
theorem heap2 (w : World) (a b : Obj) : ((w.alloc a).alloc b).heap[w.heap.size]? = some a := by
  rw [Below.heap_alloc (w.alloc a) b w.heap.size (by rw [World.size_alloc]; omega)]; exact heap_alloc_new w a
theorem Below.alloc2 (w : World) (a b : Obj) : Below w.heap.size w ((w.alloc a).alloc b) := ((Below.refl _ _).alloc (Nat.le_refl _) _).alloc (by simp) _
set_option maxHeartbeats 400000 in
theorem splitAddr_walk (v : Int) (w : World) :
    Calls Tryd.prog 18 #[.int .i64 v] w fun e w' => e = .returned (.agg #[.int .u8 (byteOf v 4 0), .int .u8 (byteOf v 4 1), .int .u8 (byteOf v 4 2), .int .u8 (byteOf v 4 3)]) ∧ Below w.heap.size w w' := by
  go_enter Tryd.func18, Tryd.ntmps18
  go_wp2_with fail
  refine (putNumber_walk (w.heap.size + 1) 4 v 40 _ _ (by omega) (own4 w _ _)).mono ?_
  rintro e w1 ⟨rfl, hg, xs, hown, hx⟩
  have c0 := (hown.cellAt 0 (by omega)).trans (hx 0 (by omega))
  have c1 := (hown.cellAt 1 (by omega)).trans (hx 1 (by omega))
  have c2 := (hown.cellAt 2 (by omega)).trans (hx 2 (by omega))
  have c3 := (hown.cellAt 3 (by omega)).trans (hx 3 (by omega))
  have hblk : w1.heap[w.heap.size]? = some (.cells #[.int .u8 0, .int .u8 0, .int .u8 0, .int .u8 0] 40) := by
    rw [hg.block w.heap.size (by rw [World.size_alloc, World.size_alloc]; omega) (by simp)]; exact heap2 w _ _
  have hbel : Below w.heap.size w w1 := (Below.alloc2 w _ _).grown hg (by rw [World.size_alloc, World.size_alloc]; omega) (fun k hk => by cases hk; omega)
  have hz : w.heap.size + 1 < w1.heap.size := by have := hg.size; simp at this; omega
  have d : ∀ o, o < 4 → w1.cell? ⟨w.heap.size, o, none⟩ = some (.int .u8 0) := by
    intro o ho
    rw [cell_of_row w1 w.heap.size o _ _ _ hblk]
    match o, ho with
    | 0, _ => rfl
    | 1, _ => rfl
    | 2, _ => rfl
    | 3, _ => rfl
  have f : ∀ o, w1.frozen? ⟨w.heap.size, o, none⟩ = false := fun o => frozen_of_row w1 w.heap.size o _ _ hblk
  have d0 := d 0 (by omega)
  have d1 := d 1 (by omega)
  have d2 := d 2 (by omega)
  have d3 := d 3 (by omega)
  have HO := hide hown
  clear hown hx hg hblk d
  go_wp2
  exact bodyPost_ret (v := .agg #[.int .u8 (byteOf v 4 0), .int .u8 (byteOf v 4 1), .int .u8 (byteOf v 4 2), .int .u8 (byteOf v 4 3)]) (by simp [results, Tryd.results18, go_sem, d0, d1, d2, d3]) rfl ⟨rfl, (((hbel.setCell (Nat.le_refl _) _).setCell (Nat.le_refl _) _).setCell (Nat.le_refl _) _).setCell (Nat.le_refl _) _⟩

theorem Tryd.infoB : (Tryd.prog.info? 5).map (fun i => (i.zero, i.size, i.bytes)) = some (some (.int .u8 0), 1, 1) := by kernel_rfl
def bval (zs : List Int) : List Value := zs.map (Value.int .u8)
/-- A slice of bytes zs in memory of this call's own, from block B on. -/
def OwnB (w : World) (B : Nat) (v : Value) (zs : List Int) : Prop := w.ownsRow B 5 1 v zs.length (bval zs) ∧ ∀ z ∈ zs, 0 ≤ z ∧ z ≤ 255
theorem bval_get (zs : List Int) (j : Nat) (h : j < zs.length) : (bval zs)[j]? = some (.int .u8 (zs.getD j 0)) := by
  unfold bval; rw [List.getElem?_map, List.getElem?_eq_getElem h, List.getD_eq_getElem?_getD, List.getElem?_eq_getElem h]; rfl
theorem OwnB.arr {w : World} {B : Nat} {v : Value} {zs : List Int} (h : OwnB w B v zs) : ∃ a cap, v = .slice a zs.length cap ∧ Arr w a zs ∧ zs.length ≤ cap := by
  rcases h.1.2 with ⟨hv, hn⟩ | ⟨g, cap, cur, hv, hB, hg, hnc, hcm, hcs, htake⟩
  · have : zs = [] := List.length_eq_zero_iff.1 hn
    subst this
    exact ⟨none, 0, hv, ⟨by simp, fun j hj => by simp at hj⟩, Nat.le_refl _⟩
  · refine ⟨some ⟨g, 0, none⟩, cap, hv, ⟨h.2, fun j hj => ⟨g, 0, rfl, ?_, ?_⟩⟩, hnc⟩
    · by_cases hlt : g < w.heap.size
      · exact hlt
      · rw [Array.getElem?_eq_none (by omega)] at hg; cases hg
    · have hc := (hv ▸ h.1 : w.ownsRow B 5 1 (.slice (some ⟨g, 0, none⟩) zs.length cap) zs.length (bval zs)).cellAt j (by omega)
      rw [Nat.zero_add, hc, bval_get zs j hj]
theorem oneCells (zs : List Int) : ∀ u ∈ bval zs, u.oneCell' = true := by
  intro u hu
  unfold bval at hu
  obtain ⟨z, _, rfl⟩ := List.mem_map.1 hu
  rfl
theorem OwnB.app {w : World} {B : Nat} {v : Value} {xs ys : List Int} {n : Nat} (h : w.ownsRow B 5 1 v n (bval xs ++ bval ys)) (hn : n = xs.length + ys.length) (hx : ∀ z ∈ xs, 0 ≤ z ∧ z ≤ 255) (hy : ∀ z ∈ ys, 0 ≤ z ∧ z ≤ 255) : OwnB w B v (xs ++ ys) := by
  refine ⟨?_, fun z hz => ?_⟩
  · have e : bval (xs ++ ys) = bval xs ++ bval ys := by unfold bval; rw [List.map_append]
    rw [e, List.length_append, ← hn]; exact h
  · rcases List.mem_append.1 hz with h | h
    · exact hx z h
    · exact hy z h
theorem news_arr {w : World} {b off : Nat} {zs : List Int} (h : Arr w (some ⟨b, off, none⟩) zs) : ∀ j u, (bval zs)[j]? = some u → w.cell? ((⟨b, off, none⟩ : Addr).add j) = some u := by
  intro j u hu
  have hj : j < zs.length := by
    have := (List.getElem?_eq_some_iff.1 hu).1
    simpa [bval] using this
  obtain ⟨b', off', e, _, hc⟩ := h.2 j hj
  simp only [Option.some.injEq, Addr.mk.injEq, and_true] at e
  obtain ⟨rfl, rfl⟩ := e
  rw [bval_get zs j hj] at hu
  rw [Addr.add_lit, hc]; exact hu
theorem cell_one (w : World) (z : Int) (t : Nat) : ∀ j u, (bval [z])[j]? = some u → (w.alloc (.cells #[.int .u8 z] t)).cell? ((⟨w.heap.size, 0, none⟩ : Addr).add j) = some u := by
  intro j u hu
  match j with
  | 0 =>
    simp [bval] at hu
    subst hu
    rw [Addr.add_lit]
    exact cell_of_row _ w.heap.size 0 _ t (0, 0) (heap_alloc_new w _)
  | k + 1 => simp [bval] at hu

theorem step_append_own {P : Program} {ops : Array Oper} {o : Oper} {a : Act} {w : World} {K : Act → World → Prop} {Q : Exit → Act → World → Prop} {E : Prop} (hgd : o.guard = none) (s x : Operand) (t : TypeId)
    (ho : o.op = .call { callee := .builtin .append, args := #[s, x], argTypes := #[t, t] })
    (base : Nat) (e : TypeId) (i : TypeInfo) (z : Value) (size bytes : Nat) (ht : P.underlying t = some (.slice e)) (hi : P.info? e = some i) (hz : i.zero = some z)
    (hsize : i.size = size) (hby : i.bytes = bytes) (hzs : z.cells.size = size) (hsz : 0 < size)
    (v : Value) (n : Nat) (xs : List Value) (hs : a.eval s = v) (hown : w.ownsRow base e size v n xs)
    (ad : Addr) (m c : Nat) (news : List Value) (hx : a.eval x = .slice (some ad) m c) (hl : news.length = m * size) (hnews : ∀ j u, news[j]? = some u → w.cell? (ad.add j) = some u) (h1 : ∀ u ∈ news, u.oneCell' = true)
    (h63 : n + m ≤ maxLen) (hbytes : (n + m) * bytes ≤ 140737488355328) (hbase : base ≤ w.heap.size)
    (h : ∀ v' w', w'.ownsRow base e size v' (n + m) (xs ++ news) → w.grownBy w' v.ownBlock → (v' = .slice none 0 0 ↔ v = .slice none 0 0 ∧ m = 0) → K (a.put o.dst v') w') :
    if Region.wanted o (yielded ops a.tmps) = true then Oper.wp P o a w K Q else E := by
  have hw : Region.wanted o (yielded ops a.tmps) = true := by simp [Region.wanted, hgd]
  rw [if_pos hw]
  exact wp_append_own w s x t ho base e i z size bytes ht hi hz hsize hby hzs hsz v n xs hs hown ad m c news hx hl hnews h1 h63 hbytes hbase h
end Go.Proofs.YtmgjagajcmeikagDoor
