/-
Contracts of functions of this seat.
-/
import Derived.Test.YtmgjagajcmeikalDoorRows
import Derived.WalkKit
import Derived.ProofKit
import Derived.OpenShut
import Derived.Deep.QuietTactic
import Derived.Below
import Derived.Laws.Externs
import Derived.Laws.IdiomStrings
import Derived.RegionTactic
import Derived.Deep.RegionWith
import Derived.BigQuiet
import Derived.OwnWalk
namespace Go.Proofs.YtmgjagajcmeikalDoor
open Go.ChangeShapes Go.WideShapes Go.ChangeAt Go.RowKit
set_option linter.unusedVariables false
theorem i64_bd {a : Int} (h : (Lit.int .i64 a).wf = true) : -9223372036854775808 ≤ a ∧ a ≤ 9223372036854775807 := by
  simpa [Lit.wf, IntKind.min, IntKind.max, IntKind.signed, IntKind.bits] using h
theorem ret_int {k : IntKind} {a b : Int} (h : a = b) : Ending.returned (.int k a) = .returned (.int k b) := by rw [h]
theorem ret_bool {a b : Bool} (h : a = b) : Ending.returned (.bool a) = .returned (.bool b) := by rw [h]
theorem hide {P : Prop} (h : P) : Hid P := h
theorem below_drewN {B : Nat} {a w : World} (h : Below B a w) (n : Nat) : Below B a (w.drewN n) := ⟨h.os, h.tape, h.output, h.size, h.block⟩
theorem below_undrew {B : Nat} {w w' : World} (h : Below B w.drew w') : Below B w w' := ⟨h.os, h.tape, h.output, h.size, h.block⟩

/-- 'x & (2^i - 1)' is x modulo 2^i, also of a number below 0. -/
theorem and_mask (k : IntKind) (i : Nat) (hi : i ≤ k.bits) (hk : ∀ n : Int, 0 ≤ n → n < 2 ^ i → k.wrap n = n) (x : Int) :
    bits .and k x ((2 ^ i - 1 : Nat) : Int) = x % 2 ^ i := by
  have hpos : 0 < 2 ^ i := Nat.two_pow_pos i
  have hle : 2 ^ i ≤ 2 ^ k.bits := Nat.pow_le_pow_right (by decide) hi
  have hm : (2 ^ i - 1) % 2 ^ k.bits = 2 ^ i - 1 := Nat.mod_eq_of_lt (by omega)
  have hd : (2 ^ i : Int) ∣ 2 ^ k.bits := by
    obtain ⟨c, hc⟩ := Nat.pow_dvd_pow 2 hi
    exact ⟨(c : Int), by exact_mod_cast hc⟩
  have hx : (((x % (2 ^ k.bits : Nat)).toNat % 2 ^ i : Nat) : Int) = x % 2 ^ i := by
    have h0 : 0 ≤ x % ((2 ^ k.bits : Nat) : Int) := Int.emod_nonneg _ (by have := Nat.two_pow_pos k.bits; omega)
    rw [Int.natCast_emod, Int.toNat_of_nonneg h0]
    push_cast
    exact Int.emod_emod_of_dvd x hd
  have hn : (x % (2 ^ k.bits : Nat)).toNat &&& (2 ^ i - 1) = (x % (2 ^ k.bits : Nat)).toNat % 2 ^ i := Nat.and_two_pow_sub_one_eq_mod _ _
  simp only [bits, BitVec.ofInt_natCast, BitVec.toNat_and, BitVec.toNat_ofNat, BitVec.toNat_ofInt, hm, hn, hx]
  exact hk _ (Int.emod_nonneg _ (by have : (0 : Int) < 2 ^ i := by exact_mod_cast hpos
                                    omega)) (Int.emod_lt_of_pos _ (by exact_mod_cast hpos))
theorem wrap_i64' (n : Int) (h0 : 0 ≤ n) (h1 : n ≤ 9223372036854775807) : IntKind.i64.wrap n = n := by rw [IntKind.wrap_i64]; omega
theorem wrap_u64 (n : Int) : IntKind.u64.wrap n = n % 18446744073709551616 := by simp [IntKind.wrap, IntKind.bits, IntKind.signed]
theorem wrap_u16 (n : Int) : IntKind.u16.wrap n = n % 65536 := by simp [IntKind.wrap, IntKind.bits, IntKind.signed]
theorem and_65535_i64 (x : Int) : bits .and .i64 x 65535 = x % 65536 :=
  and_mask .i64 16 (by decide) (fun n h0 h1 => wrap_i64' n h0 (by omega)) x
theorem and_255_i64 (x : Int) : bits .and .i64 x 255 = x % 256 :=
  and_mask .i64 8 (by decide) (fun n h0 h1 => wrap_i64' n h0 (by omega)) x
theorem and_1_i64 (x : Int) : bits .and .i64 x 1 = x % 2 :=
  and_mask .i64 1 (by decide) (fun n h0 h1 => wrap_i64' n h0 (by omega)) x
theorem and_65535_u64 (x : Int) : bits .and .u64 x 65535 = x % 65536 :=
  and_mask .u64 16 (by decide) (fun n h0 h1 => by rw [wrap_u64]; omega) x
theorem and_1_u32 (x : Int) : bits .and .u32 x 1 = x % 2 :=
  and_mask .u32 1 (by decide) (fun n h0 h1 => by rw [IntKind.wrap_u32]; omega) x
theorem and_15_u8 (x : Int) : bits .and .u8 x 15 = x % 16 :=
  and_mask .u8 4 (by decide) (fun n h0 h1 => by rw [IntKind.wrap_u8]; omega) x
/-- '^x' of an unsigned number: what is lacking to the greatest. -/
theorem not_of (k : IntKind) (hu : k.signed = false) (x : Int) (h0 : 0 ≤ x) (h1 : x < 2 ^ k.bits) : bits .xor k k.max x = k.max - x := by
  obtain ⟨a, rfl⟩ := Int.eq_ofNat_of_zero_le h0
  have ha : a < 2 ^ k.bits := by exact_mod_cast h1
  have hpos : 0 < 2 ^ k.bits := Nat.two_pow_pos _
  have hmax : k.max = ((2 ^ k.bits - 1 : Nat) : Int) := by
    unfold IntKind.max
    rw [if_neg (by simp [hu]), Int.natCast_sub hpos]; simp
  have hall : BitVec.ofInt k.bits k.max = BitVec.allOnes k.bits := by
    rw [hmax, BitVec.ofInt_natCast]; apply BitVec.eq_of_toNat_eq; simp
  have hw : ∀ n : Nat, n < 2 ^ k.bits → k.wrap n = n := by
    intro n hn
    unfold IntKind.wrap
    simp only [hu, Bool.false_and]
    rw [if_neg (by simp)]
    exact_mod_cast Nat.mod_eq_of_lt hn
  unfold bits
  simp only [hall, BitVec.allOnes_xor, BitVec.toNat_not, BitVec.ofInt_natCast, BitVec.toNat_ofNat, Nat.mod_eq_of_lt ha]
  rw [hw _ (by omega), hmax]
  omega
theorem not_u16 (n : Int) : bits .xor .u16 IntKind.u16.max (n % 65536) = 65535 - n % 65536 :=
  not_of .u16 rfl (n % 65536) (by omega) (by show _ < (65536 : Int); omega)
theorem not_u32 (n : Int) (h0 : 0 ≤ n) (h1 : n < 4294967296) : bits .xor .u32 IntKind.u32.max n = 4294967295 - n :=
  not_of .u32 rfl n h0 (by show _ < (4294967296 : Int); omega)
theorem signed_u16 : IntKind.u16.signed = false := rfl
theorem signed_u32 : IntKind.u32.signed = false := rfl

/-- The text of a row of bytes. -/
def bs (l : List UInt8) : ByteArray := ⟨l.toArray⟩
theorem bs_size (l : List UInt8) : (bs l).size = l.length := by show l.toArray.size = _; simp
theorem bs_data (s : ByteArray) : bs s.data.toList = s := by unfold bs; simp
theorem bs_get {l : List UInt8} {i : Nat} (h : i < l.length) : (bs l)[i]'(by rw [bs_size]; exact h) = l[i] := by
  show (l.toArray)[i]'(by simpa using h) = _
  simp
theorem bs_get! {l : List UInt8} {i : Nat} (h : i < l.length) : (bs l)[i]! = l[i] := by
  rw [getElem!_pos (bs l) i (by rw [bs_size]; exact h), bs_get h]
theorem bs_extract (l : List UInt8) (a b : Nat) : (bs l).extract a b = bs ((l.drop a).take (b - a)) := by
  apply ByteArray.ext
  rw [ByteArray.data_extract]
  show l.toArray.extract a b = ((l.drop a).take (b - a)).toArray
  rw [List.extract_toArray, List.extract_eq_take_drop]
theorem bs_inj {a b : List UInt8} (h : bs a = bs b) : a = b := by
  unfold bs at h; simpa using h
theorem bs_toList (l : List UInt8) : (bs l).toList = l := by rw [ByteArray.toList_eq]; unfold bs; simp
theorem firstIdx_yes (a b : List UInt8) (c : UInt8) (h : c ∉ a) : firstIdx (bs (a ++ c :: b)) c = (a.length : Int) := by
  have hl : a.length < (a ++ c :: b).length := by simp
  have e : (List.range (bs (a ++ c :: b)).size).find? (fun i => (bs (a ++ c :: b))[i]! == c) = some a.length := by
    rw [List.find?_range_eq_some]
    refine ⟨?_, by rw [List.mem_range, bs_size]; exact hl, fun j hj => ?_⟩
    · rw [bs_get! hl]; simp
    · rw [bs_get! (by omega), List.getElem_append_left hj]
      simp only [Bool.not_eq_true', beq_eq_false_iff_ne]
      intro e; exact h (e ▸ List.getElem_mem hj)
  unfold firstIdx; rw [e]
theorem firstIdx_no (l : List UInt8) (c : UInt8) (h : c ∉ l) : firstIdx (bs l) c = -1 := by
  have e : (List.range (bs l).size).find? (fun i => (bs l)[i]! == c) = none := by
    rw [List.find?_range_eq_none]
    intro i hi
    rw [bs_size] at hi
    rw [bs_get! hi]
    simp only [Bool.not_eq_true', beq_eq_false_iff_ne]
    intro e; exact h (e ▸ List.getElem_mem hi)
  unfold firstIdx; rw [e]

theorem bcell {W w1 : World} (hb : Below W.heap.size W w1) : (∀ b o, b < W.heap.size → w1.cell? ⟨b, o, none⟩ = W.cell? ⟨b, o, none⟩) ∧ (∀ b o, b < W.heap.size → w1.frozen? ⟨b, o, none⟩ = W.frozen? ⟨b, o, none⟩) :=
  ⟨fun b o h => hb.cell (p := ⟨b, o, none⟩) h, fun b o h => hb.frozen (p := ⟨b, o, none⟩) h⟩
/-- The digit's byte. -/
def dg (n : Int) : UInt8 := UInt8.ofNat (48 + n.toNat)
theorem conv1 (n : Int) (h0 : 0 ≤ n) (h1 : n < 10) (g : Nat) (w : World) (hc : w.cell? ⟨g, 0, none⟩ = some (.int .u8 (48 + n))) :
    (convert 22 9 (.slice (some ⟨g, 0, none⟩) 1 1)).run Tryd.prog w = .ok (.string ⟨#[dg n]⟩) w := by
  have h := run_convert_bytes_back (P := Tryd.prog) w 22 9 5 ⟨g, 0, none⟩ 1 [dg n] Tryd.underlying22 Tryd.underlying5 Tryd.underlying9 (by
    intro j hj
    match j, hj with
    | 0, _ =>
      rw [Addr.add_zero', hc]
      congr 2
      show 48 + n = ((UInt8.ofNat (48 + n.toNat)).toNat : Int)
      rw [UInt8.toNat_ofNat']
      omega)
  exact h
theorem dec_small (n : Int) (w : World) (h0 : 0 ≤ n) (h1 : n < 10) :
    Calls Tryd.prog 37 #[.int .i64 n] w fun e w' => e = .returned (.string ⟨#[dg n]⟩) ∧ Below w.heap.size w w' := by
  have hconv := conv1 n h0 h1
  go_enter Tryd.func37, Tryd.ntmps37
  go_wp2
  go_ret
  exact ⟨rfl, (Below.refl _ _).alloc (Nat.le_refl _) _⟩
/-- The text of a number below 1000. -/
def decL (n : Int) : Array UInt8 :=
  if n < 10 then #[dg n] else if n < 100 then #[dg (n / 10), dg (n % 10)] else #[dg (n / 100), dg (n / 10 % 10), dg (n % 10)]
theorem decL_one {n : Int} (h : n < 10) : decL n = #[dg n] := by unfold decL; rw [if_pos h]
theorem decL_more {n : Int} (h0 : 10 ≤ n) (h : n < 1000) : (⟨decL (n / 10)⟩ : ByteArray) ++ (⟨#[dg (n % 10)]⟩ : ByteArray) = ⟨decL n⟩ := by
  unfold decL
  by_cases h1 : n < 100
  · rw [if_pos (by omega), if_neg (by omega), if_pos h1]; rfl
  · rw [if_neg (by omega), if_pos (by omega), if_neg (by omega), if_neg h1]
    rw [show n / 10 / 10 = n / 100 by omega]; rfl
theorem decL_size {n : Int} : (⟨decL n⟩ : ByteArray).size ≤ 3 := by
  unfold decL
  split
  · show 1 ≤ 3; decide
  · split
    · show 2 ≤ 3; decide
    · show 3 ≤ 3; decide
set_option maxHeartbeats 400000 in
theorem dec_step (n : Int) (w : World) (t r : ByteArray) (ht : t.size ≤ 3) (h0 : 10 ≤ n) (h1 : n < 1000) (ih : ∀ w, Calls Tryd.prog 37 #[.int .i64 (n / 10)] w fun e w' => e = .returned (.string t) ∧ Below w.heap.size w w') (hr : t ++ (⟨#[dg (n % 10)]⟩ : ByteArray) = r) :
    Calls Tryd.prog 37 #[.int .i64 n] w fun e w' => e = .returned (.string r) ∧ Below w.heap.size w w' := by
  have hconv := conv1 (n % 10) (by omega) (by omega)
  have hd : (⟨#[dg (n % 10)]⟩ : ByteArray).size = 1 := rfl
  generalize (⟨#[dg (n % 10)]⟩ : ByteArray) = d at *
  have hds : d.size ≤ 1 := by omega
  have e1 : IntKind.i64.wrap (n.tdiv 10) = n / 10 := by rw [Int.tdiv_eq_ediv_of_nonneg (by omega)]; exact wrap_i64' _ (by omega) (by omega)
  have e2 : n.tmod 10 = n % 10 := Int.tmod_eq_emod_of_nonneg (by omega)
  have e3 : IntKind.i64.wrap (48 + n % 10) = 48 + n % 10 := wrap_i64' _ (by omega) (by omega)
  have e4 : IntKind.u8.wrap (48 + n % 10) = 48 + n % 10 := by rw [IntKind.wrap_u8]; omega
  have IH := hide ih
  have HR := hide hr
  clear ih hr hd
  go_enter Tryd.func37, Tryd.ntmps37
  go_wp2_with fail
  go_region_with (first | (go_at_call 37; refine (IH.out _).mono ?_; rintro e w' ⟨rfl, hbel⟩; obtain ⟨hcc, hff⟩ := bcell hbel))
  all_goals
    go_wp2
    go_ret
    refine ⟨by rw [← HR.out]; rfl, ?_⟩
    first
      | exact Below.alloc (w := w') (show Below w.heap.size w w' from below_undrew hbel) hbel.size _
      | exact Below.trans ((Below.refl w.heap.size w).alloc (Nat.le_refl _) (.cells #[.int .u8 (48 + n % 10)] 5)) ((show Below (w.alloc (.cells #[.int .u8 (48 + n % 10)] 5)).heap.size (w.alloc (.cells #[.int .u8 (48 + n % 10)] 5)) w' from below_undrew hbel).mono (by rw [World.size_alloc]; omega))
theorem dec_walk (n : Int) (w : World) (h0 : 0 ≤ n) (h1 : n < 1000) :
    Calls Tryd.prog 37 #[.int .i64 n] w fun e w' => e = .returned (.string ⟨decL n⟩) ∧ Below w.heap.size w w' := by
  have one : ∀ (n : Int) (w : World), 0 ≤ n → n < 10 → Calls Tryd.prog 37 #[.int .i64 n] w fun e w' => e = .returned (.string ⟨decL n⟩) ∧ Below w.heap.size w w' := fun n w a b => by
    have h := dec_small n w a b
    rw [← decL_one b] at h; exact h
  have two : ∀ (n : Int) (w : World), 0 ≤ n → n < 100 → Calls Tryd.prog 37 #[.int .i64 n] w fun e w' => e = .returned (.string ⟨decL n⟩) ∧ Below w.heap.size w w' := fun n w a b => by
    by_cases h : n < 10
    · exact one n w a h
    · exact dec_step n w ⟨decL (n / 10)⟩ ⟨decL n⟩ decL_size (by omega) (by omega) (fun w => one (n / 10) w (by omega) (by omega)) (decL_more (by omega) (by omega))
  by_cases h : n < 10
  · exact one n w h0 h
  · exact dec_step n w ⟨decL (n / 10)⟩ ⟨decL n⟩ decL_size (by omega) h1 (fun w => two (n / 10) w (by omega) (by omega)) (decL_more (by omega) h1)

/-- A decimal digit's byte. -/
def dgt (x : UInt8) : Bool := decide (48 ≤ x.toNat) && decide (x.toNat ≤ 57)
theorem dgt_iff {x : UInt8} : dgt x = true ↔ 48 ≤ x.toNat ∧ x.toNat ≤ 57 := by unfold dgt; simp
/-- The number that digits tell. -/
def numV (l : List UInt8) : Int := l.foldl (fun n x => n * 10 + ((x.toNat : Int) - 48)) 0
theorem numV_snoc (l : List UInt8) (x : UInt8) : numV (l ++ [x]) = numV l * 10 + ((x.toNat : Int) - 48) := by unfold numV; simp [List.foldl_append]
theorem numV_take (l : List UInt8) (k : Nat) (h : k < l.length) : numV (l.take (k + 1)) = numV (l.take k) * 10 + ((l[k].toNat : Int) - 48) := by
  rw [List.take_succ_eq_append_getElem h, numV_snoc]
theorem all_take {l : List UInt8} (h : l.all dgt = true) (k : Nat) : (l.take k).all dgt = true := by
  rw [List.all_eq_true] at *; exact fun x hx => h x (List.mem_of_mem_take hx)
theorem all_succ {l : List UInt8} {k : Nat} (h : k < l.length) (h0 : (l.take k).all dgt = true) (h1 : dgt l[k] = true) : (l.take (k + 1)).all dgt = true := by
  rw [List.take_succ_eq_append_getElem h, List.all_append, h0]; simp [h1]
theorem all_not {l : List UInt8} {k : Nat} (h : k < l.length) (h1 : dgt l[k] = false) : l.all dgt = false := by
  cases e : l.all dgt with
  | false => rfl
  | true =>
    rw [List.all_eq_true] at e
    have := e l[k] (List.getElem_mem h)
    rw [h1] at this; cases this
theorem numV_nn (l : List UInt8) (h : l.all dgt = true) : ∀ k, k ≤ l.length → 0 ≤ numV (l.take k)
  | 0, _ => by simp [numV]
  | k + 1, hk => by
    have ih := numV_nn l h k (by omega)
    rw [numV_take l k (by omega)]
    have := dgt_iff.1 ((List.all_eq_true.1 h) l[k] (List.getElem_mem (by omega)))
    omega
theorem numV_mono (l : List UInt8) (h : l.all dgt = true) (k : Nat) : ∀ d, k + d ≤ l.length → numV (l.take k) ≤ numV (l.take (k + d))
  | 0, _ => Int.le_refl _
  | d + 1, hk => by
    have ih := numV_mono l h k d (by omega)
    have h0 := numV_nn l h (k + d) (by omega)
    rw [← Nat.add_assoc, numV_take l (k + d) (by omega)]
    have := dgt_iff.1 ((List.all_eq_true.1 h) l[k + d] (List.getElem_mem (by omega)))
    omega
theorem numV_le (l : List UInt8) (h : l.all dgt = true) (k : Nat) (hk : k ≤ l.length) : numV (l.take k) ≤ numV l := by
  have := numV_mono l h k (l.length - k) (by omega)
  rw [show k + (l.length - k) = l.length by omega, List.take_length] at this
  exact this
/-- A needless nought ahead. -/
def ledN (l : List UInt8) : Bool := decide (1 < l.length) && l.head? == some 48
def numOK (l : List UInt8) (most : Int) : Bool := !l.isEmpty && !ledN l && l.all dgt && decide (numV l ≤ most)
def numF (l : List UInt8) (k : Nat) : Bool := !l.isEmpty && decide (l.length ≤ k) && l.all dgt && !ledN l
theorem numOK_nodigit {l : List UInt8} {most : Int} {k : Nat} (h : k < l.length) (h1 : dgt l[k] = false) : numOK l most = false := by
  unfold numOK; rw [all_not h h1]; simp
theorem numOK_more {l : List UInt8} {most : Int} {k : Nat} (hk : k ≤ l.length) (h1 : most < numV (l.take k)) : numOK l most = false := by
  unfold numOK
  cases e : l.all dgt with
  | false => simp
  | true =>
    have := numV_le l e k hk
    rw [show decide (numV l ≤ most) = false from decide_eq_false (by omega)]; simp
theorem led_big (l : List UInt8) (h : l.all dgt = true) (hl : ledN l = false) : (2 < l.length → 100 ≤ numV l) ∧ (3 < l.length → 1000 ≤ numV l) := by
  have hd := List.all_eq_true.1 h
  constructor
  · intro h2
    have := numV_le l h 3 (by omega)
    match l, h2, hl, hd, this with
    | a :: b :: c :: t, _, hl, hd, this =>
      have h1 := dgt_iff.1 (hd a (by simp))
      have h2 := dgt_iff.1 (hd b (by simp))
      have h3 := dgt_iff.1 (hd c (by simp))
      have h4 : a.toNat ≠ 48 := fun e => by
        have : a = 48 := UInt8.toNat_inj.1 e
        rw [this] at hl; simp [ledN] at hl
      simp only [List.take_succ_cons, List.take_zero] at this
      have e : numV [a, b, c] = ((a.toNat : Int) - 48) * 100 + ((b.toNat : Int) - 48) * 10 + ((c.toNat : Int) - 48) := by simp [numV]; omega
      omega
  · intro h2
    have := numV_le l h 4 (by omega)
    match l, h2, hl, hd, this with
    | a :: b :: c :: d :: t, _, hl, hd, this =>
      have h1 := dgt_iff.1 (hd a (by simp))
      have h2 := dgt_iff.1 (hd b (by simp))
      have h3 := dgt_iff.1 (hd c (by simp))
      have h3' := dgt_iff.1 (hd d (by simp))
      have h4 : a.toNat ≠ 48 := fun e => by
        have : a = 48 := UInt8.toNat_inj.1 e
        rw [this] at hl; simp [ledN] at hl
      simp only [List.take_succ_cons, List.take_zero] at this
      have e : numV [a, b, c, d] = ((a.toNat : Int) - 48) * 1000 + ((b.toNat : Int) - 48) * 100 + ((c.toNat : Int) - 48) * 10 + ((d.toNat : Int) - 48) := by simp [numV]; omega
      omega
theorem numOK_F3 (l : List UInt8) : (numF l 3 && decide (numV l ≤ 255)) = numOK l 255 := by
  unfold numF numOK
  cases e1 : l.all dgt with
  | false => simp
  | true =>
    cases e2 : ledN l with
    | true => simp
    | false =>
      have := (led_big l e1 e2).2
      by_cases h : l.length ≤ 3
      · rw [decide_eq_true h]; cases l.isEmpty <;> simp
      · rw [decide_eq_false (p := numV l ≤ 255) (by have := this (by omega); omega)]; simp
theorem numOK_F2 (l : List UInt8) : (numF l 2 && decide (numV l ≤ 32)) = numOK l 32 := by
  unfold numF numOK
  cases e1 : l.all dgt with
  | false => simp
  | true =>
    cases e2 : ledN l with
    | true => simp
    | false =>
      have := (led_big l e1 e2).1
      by_cases h : l.length ≤ 2
      · rw [decide_eq_true h]; cases l.isEmpty <;> simp
      · rw [decide_eq_false (p := numV l ≤ 32) (by have := this (by omega); omega)]; simp
theorem numOK_len {l : List UInt8} (h : numOK l 255 = true) : 1 ≤ l.length ∧ l.length ≤ 3 ∧ 0 ≤ numV l ∧ numV l ≤ 255 := by
  have h2 := h
  rw [← numOK_F3] at h
  unfold numF at h
  simp only [Bool.and_eq_true, decide_eq_true_eq, Bool.not_eq_true'] at h
  obtain ⟨⟨⟨⟨h1, h2⟩, h3⟩, h4⟩, h5⟩ := h
  have h0 := numV_nn l h3 l.length (Nat.le_refl _)
  rw [List.take_length] at h0
  refine ⟨?_, h2, h0, h5⟩
  cases l with
  | nil => simp at h1
  | cons => simp
/-- The text of the number is the digits, just where no needless nought stands ahead. -/
theorem dec_digits (l : List UInt8) (h0 : l ≠ []) (h3 : l.length ≤ 3) (h : l.all dgt = true) : 0 ≤ numV l ∧ numV l < 1000 ∧ ((decL (numV l)).toList == l) = !ledN l := by
  have hd := List.all_eq_true.1 h
  have dgx : ∀ (x : UInt8), dgt x = true → dg ((x.toNat : Int) - 48) = x := fun x hx => by
    have := dgt_iff.1 hx
    apply UInt8.toNat_inj.1
    unfold dg
    rw [UInt8.toNat_ofNat']
    omega
  match l, h0, h3, hd with
  | [a], _, _, hd =>
    have h1 := dgt_iff.1 (hd a (by simp))
    have e : numV [a] = (a.toNat : Int) - 48 := by simp [numV]
    refine ⟨by omega, by omega, ?_⟩
    rw [decL_one (by omega), e, dgx a (hd a (by simp))]
    simp [ledN]
  | [a, b], _, _, hd =>
    have h1 := dgt_iff.1 (hd a (by simp))
    have h2 := dgt_iff.1 (hd b (by simp))
    have e : numV [a, b] = ((a.toNat : Int) - 48) * 10 + ((b.toNat : Int) - 48) := by simp [numV]
    refine ⟨by omega, by omega, ?_⟩
    by_cases h4 : a = 48
    · rw [decL_one (by rw [e, h4]; show ((48 : Nat) - 48 : Int) * 10 + _ < 10; omega)]
      simp [ledN, h4]
    · have h5 : a.toNat ≠ 48 := fun e => h4 (UInt8.toNat_inj.1 e)
      unfold decL
      rw [if_neg (by omega), if_pos (by omega), show numV [a, b] / 10 = (a.toNat : Int) - 48 by omega, show numV [a, b] % 10 = (b.toNat : Int) - 48 by omega, dgx a (hd a (by simp)), dgx b (hd b (by simp))]
      simp [ledN, h4]
  | [a, b, c], _, _, hd =>
    have h1 := dgt_iff.1 (hd a (by simp))
    have h2 := dgt_iff.1 (hd b (by simp))
    have h3 := dgt_iff.1 (hd c (by simp))
    have e : numV [a, b, c] = ((a.toNat : Int) - 48) * 100 + ((b.toNat : Int) - 48) * 10 + ((c.toNat : Int) - 48) := by simp [numV]; omega
    refine ⟨by omega, by omega, ?_⟩
    by_cases h4 : a = 48
    · have h6 : numV [a, b, c] < 100 := by rw [e, h4]; show ((48 : Nat) - 48 : Int) * 100 + _ + _ < 100; omega
      have h7 : ¬ (decL (numV [a, b, c])).toList = [a, b, c] := fun e2 => by
        have := congrArg List.length e2
        unfold decL at this
        split at this
        · simp at this
        · simp at this
      rw [show ((decL (numV [a, b, c])).toList == [a, b, c]) = false from beq_eq_false_iff_ne.2 h7]
      simp [ledN, h4]
    · have h5 : a.toNat ≠ 48 := fun e => h4 (UInt8.toNat_inj.1 e)
      unfold decL
      rw [if_neg (by omega), if_neg (by omega), show numV [a, b, c] / 100 = (a.toNat : Int) - 48 by omega, show numV [a, b, c] / 10 % 10 = (b.toNat : Int) - 48 by omega, show numV [a, b, c] % 10 = (c.toNat : Int) - 48 by omega, dgx a (hd a (by simp)), dgx b (hd b (by simp)), dgx c (hd c (by simp))]
      simp [ledN, h4]

/-- The place of a byte in a text, by the model's entry. -/
theorem idx_run (s : ByteArray) (c : Int) (w : World) : (callFunc 61 #[.string s, .int .u8 c]).run Tryd.prog w = .ok (.value (.int .i64 (firstIdx s c.toNat.toUInt8))) w := by
  rw [run_callFunc_extern Tryd.func61 (by kernel_rfl) (by kernel_rfl) (by kernel_rfl) (e := Extern.BytealgIndexByte.indexByte) (by kernel_rfl), run_indexByte_string]; rfl
theorem indexByte_walk (s : ByteArray) (c : Int) (w : World) :
    Calls Tryd.prog 52 #[.string s, .int .u8 c] w fun e w' => e = .returned (.int .i64 (firstIdx s c.toNat.toUInt8)) ∧ w' = w := by
  have hx := idx_run s c
  generalize firstIdx s c.toNat.toUInt8 = k at *
  go_enter Tryd.func52, Tryd.ntmps52
  go_wp2
  go_ret
  exact ⟨rfl, rfl⟩
theorem index_walk (s p : ByteArray) (c : UInt8) (w : World) (hp : p = ⟨#[c]⟩) :
    Calls Tryd.prog 46 #[.string s, .string p] w fun e w' => e = .returned (.int .i64 (firstIdx s c)) ∧ w' = w := by
  have h1 : p.size = 1 := by rw [hp]; rfl
  have h0 : (p[0]'(by omega)) = c := by subst hp; rfl
  have hc : (((p[0]'(by omega)).toNat : Int).toNat.toUInt8) = c := by rw [h0]; simp
  have hb := c.toNat_lt
  have HE : Hid ((p.toList == s.toList) = true → firstIdx s c = 0) := hide (fun h => by
    have h2 : s = p := ByteArray.ext (Array.toList_inj.1 (by
      have := (beq_iff_eq.1 h)
      rw [ByteArray.toList_eq, ByteArray.toList_eq] at this
      exact this.symm))
    rw [h2, hp]
    exact firstIdx_yes [] [] c (by simp))
  clear hp
  go_enter Tryd.func46, Tryd.ntmps46
  go_wp2_with (go_at_call 52; refine (indexByte_walk _ _ _).mono ?_; rintro e w' ⟨rfl, rfl⟩)
  · go_ret
    exact ⟨ret_int (by rw [(HE.out (by assumption))]), rfl⟩
  · go_ret
    exact ⟨rfl, rfl⟩
theorem cut_walk (s p : ByteArray) (c : UInt8) (i : Nat) (w : World) (hp : p = ⟨#[c]⟩) (hs : s.size ≤ 1048576) (hi : firstIdx s c = i) (hlt : i < s.size) :
    Calls Tryd.prog 35 #[.string s, .string p] w fun e w' => e = .returned (.tuple #[.string (s.extract 0 i), .string (s.extract (i + 1) s.size), .bool true]) ∧ Below w.heap.size w w' := by
  have h1 : p.size = 1 := by rw [hp]; rfl
  have HI := hide hi
  have HP := hide hp
  have e1 : IntKind.i64.wrap ((i : Int) + 1) = ((i + 1 : Nat) : Int) := by rw [wrap_i64' _ (by omega) (by omega)]; rfl
  clear hp hi
  go_enter Tryd.func35, Tryd.ntmps35
  go_wp2_with (go_at_call 46; refine (index_walk _ _ c _ HP.out).mono ?_; rintro e w' ⟨rfl, rfl⟩; rw [HI.out])
  go_quiet (fail)
  go_wp2
  go_ret3
  exact ⟨rfl, below_drewN (Below.refl _ _) _⟩
theorem cut_none (s p : ByteArray) (c : UInt8) (w : World) (hp : p = ⟨#[c]⟩) (hi : firstIdx s c = -1) :
    Calls Tryd.prog 35 #[.string s, .string p] w fun e w' => e = .returned (.tuple #[.string s, .string ⟨#[]⟩, .bool false]) ∧ Below w.heap.size w w' := by
  have HI := hide hi
  have HP := hide hp
  clear hp hi
  go_enter Tryd.func35, Tryd.ntmps35
  go_wp2_with (go_at_call 46; refine (index_walk _ _ c _ HP.out).mono ?_; rintro e w' ⟨rfl, rfl⟩; rw [HI.out])
  go_ret3
  exact ⟨rfl, Below.refl _ _⟩
/-- strings.Cut at a byte that is there. -/
theorem cut_yes (a b : List UInt8) (c : UInt8) (w : World) (hs : (a ++ c :: b).length ≤ 1048576) (hc : c ∉ a) :
    Calls Tryd.prog 17 #[.string (bs (a ++ c :: b)), .string (bs [c])] w fun e w' => e = .returned (.tuple #[.string (bs a), .string (bs b), .bool true]) ∧ Below w.heap.size w w' := by
  have h1 : (bs (a ++ c :: b)).extract 0 a.length = bs a := by rw [bs_extract]; simp
  have h2 : (bs (a ++ c :: b)).extract (a.length + 1) (bs (a ++ c :: b)).size = bs b := by
    rw [bs_extract, bs_size]; congr 1
    rw [show a ++ c :: b = (a ++ [c]) ++ b by simp, List.drop_left' (by simp)]
    apply List.take_of_length_le; simp; omega
  have hw := cut_walk (bs (a ++ c :: b)) (bs [c]) c a.length w rfl (by rw [bs_size]; exact hs) (firstIdx_yes a b c hc) (by rw [bs_size]; simp)
  rw [h1, h2] at hw
  have HW := hide hw
  clear hw h1 h2
  generalize bs (a ++ c :: b) = s at *
  generalize bs [c] = p at *
  go_enter Tryd.func17, Tryd.ntmps17
  go_wp2_with (go_at_call 35; refine HW.out.mono ?_; rintro e w' ⟨rfl, hb⟩)
  go_ret3
  exact ⟨rfl, hb⟩
/-- strings.Cut at a byte that is not there. -/
theorem cut_no (l : List UInt8) (c : UInt8) (w : World) (hc : c ∉ l) :
    Calls Tryd.prog 17 #[.string (bs l), .string (bs [c])] w fun e w' => e = .returned (.tuple #[.string (bs l), .string (bs []), .bool false]) ∧ Below w.heap.size w w' := by
  have HW := hide (cut_none (bs l) (bs [c]) c w rfl (firstIdx_no l c hc))
  generalize bs l = s at *
  generalize bs [c] = p at *
  go_enter Tryd.func17, Tryd.ntmps17
  go_wp2_with (go_at_call 35; refine HW.out.mono ?_; rintro e w' ⟨rfl, hb⟩)
  go_ret3
  exact ⟨rfl, hb⟩

/-- The bytes of a slice whose array begins at a: zs, from the first on. -/
def Arr (w : World) (a : Option Addr) (zs : List Int) : Prop :=
  (∀ z ∈ zs, 0 ≤ z ∧ z ≤ 255) ∧ ∀ j, j < zs.length → ∃ b off, a = some ⟨b, off, none⟩ ∧ b < w.heap.size ∧ w.cell? ⟨b, off + j, none⟩ = some (.int .u8 (zs.getD j 0))
theorem Arr.below {B : Nat} {w w' : World} {a : Option Addr} {zs : List Int} (h : Arr w a zs) (hb : Below B w w') (hB : w.heap.size ≤ B) : Arr w' a zs := by
  refine ⟨h.1, fun j hj => ?_⟩
  obtain ⟨b, off, ha, hlt, hc⟩ := h.2 j hj
  exact ⟨b, off, ha, by have := hb.size; omega, by rw [hb.cell (p := ⟨b, off + j, none⟩) (by show b < B; omega)]; exact hc⟩
theorem getD_bd {zs : List Int} (h : ∀ z ∈ zs, 0 ≤ z ∧ z ≤ 255) (j : Nat) : 0 ≤ zs.getD j 0 ∧ zs.getD j 0 ≤ 255 := by
  by_cases hj : j < zs.length
  · rw [List.getD_eq_getElem?_getD, List.getElem?_eq_getElem hj]; exact h _ (List.getElem_mem hj)
  · rw [List.getD_eq_getElem?_getD, List.getElem?_eq_none (by omega)]; simp
theorem grown_trans {a b c : World} {row : Option Nat} (h : a.grownBy b row) (k : b.grownBy c row) : a.grownBy c row :=
  ⟨k.os.trans h.os, k.tape.trans h.tape, k.output.trans h.output, Nat.le_trans h.size k.size, fun i hi hr => (k.block i (Nat.lt_of_lt_of_le hi h.size) hr).trans (h.block i hi hr)⟩

/-- A number out of bytes, the highest first. -/
def tnum (zs : List Int) : Int := zs.foldl (fun n x => n * 256 + x) 0
theorem tnum_take (zs : List Int) (k : Nat) (h : k < zs.length) : tnum (zs.take (k + 1)) = tnum (zs.take k) * 256 + zs.getD k 0 := by
  unfold tnum
  rw [List.take_succ_eq_append_getElem h, List.foldl_append]
  simp [List.getD_eq_getElem?_getD, h]
theorem tnum_bd (zs : List Int) (h : ∀ z ∈ zs, 0 ≤ z ∧ z ≤ 255) : ∀ k, k ≤ zs.length → 0 ≤ tnum (zs.take k) ∧ tnum (zs.take k) < 256 ^ k
  | 0, _ => by simp [tnum]
  | k + 1, hk => by
    have ih := tnum_bd zs h k (by omega)
    rw [tnum_take zs k (by omega), Int.pow_succ]
    have := getD_bd h k
    omega
theorem or_low_i64 (x y : Int) (hx : 0 ≤ x) (hx1 : x < 36028797018963968) (hy : 0 ≤ y ∧ y ≤ 255) : bits .or .i64 (x * 256) y = x * 256 + y :=
  bits_join .i64 63 (by decide) (fun n h0 h1 => wrap_i64' n h0 (by have : n < 2 ^ 63 := h1; omega)) 8 (x * 256) y (by omega) (by show x * 256 % 256 = 0; omega) (by show x * 256 < 9223372036854775808; omega) hy.1 (by show y < 256; omega) (by show y < 9223372036854775808; omega)
set_option maxHeartbeats 1000000 in
theorem takeNumber_walk (a : Option Addr) (n cap : Nat) (zs : List Int) (w : World) (hn : zs.length = n) (ha : Arr w a zs) (hm : n ≤ 6) :
    Calls Tryd.prog 19 #[.slice a n cap] w fun e w' => e = .returned (.int .i64 (tnum zs)) ∧ w' = w := by
  have HN := hide hn
  have HA := hide ha
  clear hn ha
  go_enter Tryd.func19, Tryd.ntmps19
  go_wp2_with fail
  go_loop [3, 8] (fun r t => ∃ k : Nat, k ≤ n ∧ t = .int .i64 k ∧ r = .int .i64 (tnum (zs.take k))) (fun _ t => n - (intOf t).toNat)
  case atStart => exact ⟨0, Nat.zero_le _, rfl, rfl⟩
  case round =>
    obtain ⟨k, hk, rfl, rfl⟩ := hrel
    have hb := tnum_bd zs HA.out.1 k (by rw [HN.out]; exact hk)
    by_cases hlt : k < n
    · obtain ⟨b1, o1, rfl, hb1, hc1⟩ := HA.out.2 k (by rw [HN.out]; exact hlt)
      have HT := hide (tnum_take zs k (by rw [HN.out]; exact hlt))
      have hz := getD_bd HA.out.1 k
      have hp : (256 : Nat) ^ k ≤ 256 ^ 5 := Nat.pow_le_pow_right (by decide) (by omega)
      have hp2 : (256 : Nat) ^ k ≤ 1099511627776 := hp
      have hp' : ((256 : Int) ^ k) ≤ 1099511627776 := by
        have h2 : ((256 ^ k : Nat) : Int) ≤ ((1099511627776 : Nat) : Int) := Int.ofNat_le.2 hp2
        rw [Int.natCast_pow] at h2; exact h2
      have hb0 := hb.1
      have hb2 : tnum (zs.take k) < 1099511627776 := by have := hb.2; omega
      have ho := or_low_i64 (tnum (zs.take k)) (zs.getD k 0) hb.1 (by omega) hz
      clear hb hp hp2 hp'
      generalize zs.getD k 0 = z at *
      generalize tnum (zs.take k) = r at *
      go_wp2
      go_round
      case rel => exact ⟨k + 1, by omega, by go_num, by rw [HT.out]⟩
      case measure => simp [intOf]; omega
    · have hk' : k = n := by omega
      subst hk'
      have HE : Hid (zs.take k = zs) := hide (List.take_of_length_le (by rw [HN.out]; exact Nat.le_refl _))
      go_wp2
      go_ret
      exact ⟨ret_int (by rw [HE.out]), rfl⟩
end Go.Proofs.YtmgjagajcmeikalDoor
