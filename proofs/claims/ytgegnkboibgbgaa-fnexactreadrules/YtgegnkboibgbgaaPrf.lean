/-
Contracts of functions of this seat.
-/
import Derived.Test.YtgegnkboibgbgaaRows
import Derived.WalkKit
import Derived.ProofKit
import Derived.OpenShut
import Derived.Test.YtgegnkboibgbgaaFla
import Derived.Laws.Externs
import Derived.Deep.QuietTactic
import Derived.BigQuiet
import Derived.Deep.RegionHeld3
namespace Go.Proofs.Ytgegnkboibgbgaa
open Go.ChangeShapes Go.WideShapes Go.ChangeAt Go.RowKit
set_option linter.unusedVariables false
set_option maxRecDepth 100000
/-- The text of a row of bytes. -/
def bs (l : List UInt8) : ByteArray := ⟨l.toArray⟩
theorem bs_size (l : List UInt8) : (bs l).size = l.length := by show l.toArray.size = _; simp
theorem bs_data (s : ByteArray) : bs s.data.toList = s := by unfold bs; simp
theorem bs_get {l : List UInt8} {i : Nat} (h : i < l.length) : (bs l)[i]'(by rw [bs_size]; exact h) = l[i] := by
  show (l.toArray)[i]'(by simpa using h) = _
  simp
theorem bs_get! {l : List UInt8} {i : Nat} (h : i < l.length) : (bs l)[i]! = l[i] := by
  rw [getElem!_pos (bs l) i (by rw [bs_size]; exact h), bs_get h]
theorem bs_extract (l : List UInt8) (a b : Nat) : (bs l).extract a b = bs ((l.drop a).take (b - a)) := by
  apply ByteArray.ext
  rw [ByteArray.data_extract]
  show l.toArray.extract a b = ((l.drop a).take (b - a)).toArray
  rw [List.extract_toArray, List.extract_eq_take_drop]
theorem bs_inj {a b : List UInt8} (h : bs a = bs b) : a = b := by
  unfold bs at h; simpa using h
theorem bs_toList (l : List UInt8) : (bs l).toList = l := by rw [ByteArray.toList_eq]; unfold bs; simp
theorem firstIdx_yes (a b : List UInt8) (c : UInt8) (h : c ∉ a) : firstIdx (bs (a ++ c :: b)) c = (a.length : Int) := by
  have hl : a.length < (a ++ c :: b).length := by simp
  have e : (List.range (bs (a ++ c :: b)).size).find? (fun i => (bs (a ++ c :: b))[i]! == c) = some a.length := by
    rw [List.find?_range_eq_some]
    refine ⟨?_, by rw [List.mem_range, bs_size]; exact hl, fun j hj => ?_⟩
    · rw [bs_get! hl]; simp
    · rw [bs_get! (by omega), List.getElem_append_left hj]
      simp only [Bool.not_eq_true', beq_eq_false_iff_ne]
      intro e; exact h (e ▸ List.getElem_mem hj)
  unfold firstIdx; rw [e]
theorem firstIdx_no (l : List UInt8) (c : UInt8) (h : c ∉ l) : firstIdx (bs l) c = -1 := by
  have e : (List.range (bs l).size).find? (fun i => (bs l)[i]! == c) = none := by
    rw [List.find?_range_eq_none]
    intro i hi
    rw [bs_size] at hi
    rw [bs_get! hi]
    simp only [Bool.not_eq_true', beq_eq_false_iff_ne]
    intro e; exact h (e ▸ List.getElem_mem hi)
  unfold firstIdx; rw [e]
theorem Try.infoS : (Try.prog.info? 9).map (fun i => (i.zero, i.size, i.bytes)) = some (some (.string ⟨#[]⟩), 1, 16) := by kernel_rfl

theorem In_yes (n a b : Int) (w : World) (h : a ≤ n ∧ n ≤ b) :
    Calls Try.prog 53 #[.int .i64 n, .int .i64 a, .int .i64 b] w fun e w' => e = .returned (.bool true) ∧ w' = w := by
  obtain ⟨h1, h2⟩ := h
  go_enter Try.func53, Try.ntmps53
  go_wp2
  go_ret
  exact ⟨rfl, rfl⟩
theorem In_no (n a b : Int) (w : World) (h : ¬ (a ≤ n ∧ n ≤ b)) :
    Calls Try.prog 53 #[.int .i64 n, .int .i64 a, .int .i64 b] w fun e w' => e = .returned (.bool false) ∧ w' = w := by
  by_cases h1 : a ≤ n
  · have h2 : ¬ n ≤ b := fun h2 => h ⟨h1, h2⟩
    clear h
    go_enter Try.func53, Try.ntmps53
    go_wp2
    go_ret
    exact ⟨rfl, rfl⟩
  · clear h
    go_enter Try.func53, Try.ntmps53
    go_wp2
    go_ret
    exact ⟨rfl, rfl⟩

/-- It is an address. -/
def adrB (a : Int) : Bool := decide (0 ≤ a ∧ a ≤ 4294967295)
theorem adrB_iff {a : Int} : adrB a = true ↔ 0 ≤ a ∧ a ≤ 4294967295 := by unfold adrB; simp

theorem specAddrOK_walk (a : Int) (w : World) :
    Calls Try.prog 70 #[.int .i64 a] w fun e w' => e = .returned (.bool (adrB a)) ∧ w' = w := by
  by_cases h : 0 ≤ a ∧ a ≤ 4294967295
  · have e := hide (adrB_iff.2 h)
    go_enter Try.func70, Try.ntmps70
    go_wp2_with (go_at_call 53; refine (In_yes _ _ _ _ h).mono ?_; rintro e w' ⟨rfl, rfl⟩)
    go_ret
    exact ⟨ret_bool e.out.symm, rfl⟩
  · have e : Hid (adrB a = false) := hide (by unfold adrB; simpa using h)
    go_enter Try.func70, Try.ntmps70
    go_wp2_with (go_at_call 53; refine (In_no _ _ _ _ h).mono ?_; rintro e w' ⟨rfl, rfl⟩)
    go_ret
    exact ⟨ret_bool e.out.symm, rfl⟩

/-- How many addresses a prefix of b bits has. -/
def sz (b : Int) : Int := 2 ^ (32 - b.toNat)
theorem sz_pos (b : Int) : 0 < sz b := by unfold sz; exact Int.pow_pos (by decide)
theorem sz_le (b : Int) : sz b ≤ 4294967296 := by
  unfold sz
  have h : 2 ^ (32 - b.toNat) ≤ 2 ^ 32 := Nat.pow_le_pow_right (by decide) (by omega)
  have : ((2 ^ (32 - b.toNat) : Nat) : Int) ≤ ((2 ^ 32 : Nat) : Int) := by exact_mod_cast h
  simpa using this
theorem host_fin : ∀ n : Fin 33, (4294967295 : Int) / 2 ^ n.val = 2 ^ (32 - n.val) - 1 := by decide
theorem host_eq (b : Int) (h0 : 0 ≤ b) (h1 : b ≤ 32) : (4294967295 : Int) / 2 ^ b.toNat = sz b - 1 := by
  have := host_fin ⟨b.toNat, by omega⟩
  exact this
theorem sz_step (b : Int) (h0 : 0 ≤ b) (h1 : b < 32) : sz b = sz (b + 1) * 2 := by
  unfold sz
  rw [show (32 - b.toNat) = (32 - (b + 1).toNat) + 1 by omega, Int.pow_succ]
theorem sz_32 (b : Int) (h : 32 ≤ b) : sz b = 1 := by unfold sz; rw [show 32 - b.toNat = 0 by omega]; rfl
/-- A prefix is valid. -/
def prefB (a b : Int) : Bool := decide (0 ≤ b) && decide (b ≤ 32) && adrB a && (a % sz b == 0)
/-- An address is in a prefix. -/
def hasB (a b x : Int) : Bool := prefB a b && adrB x && (x / sz b == a / sz b)
theorem prefB_true {a b : Int} (h0 : 0 ≤ b) (h1 : b ≤ 32) (h2 : adrB a = true) : prefB a b = (a % sz b == 0) := by unfold prefB; simp [h0, h1, h2]
theorem prefB_neg {a b : Int} (h0 : ¬ 0 ≤ b) : prefB a b = false := by unfold prefB; simp [h0]
theorem prefB_big {a b : Int} (h0 : ¬ b ≤ 32) : prefB a b = false := by unfold prefB; simp [h0]
theorem prefB_adr {a b : Int} (h0 : adrB a = false) : prefB a b = false := by unfold prefB; simp [h0]
theorem prefB_iff {a b : Int} : prefB a b = true ↔ 0 ≤ b ∧ b ≤ 32 ∧ adrB a = true ∧ a % sz b = 0 := by unfold prefB; simp [and_assoc]
/-- 'x &^ (2^m - 1)': the bits behind are 0. -/
theorem andNot_low (x m : Nat) (hx : x < 2 ^ 63) (hm : m ≤ 32) : bits .andNot .i64 (x : Int) ((2 ^ m - 1 : Nat) : Int) = ((x - x % 2 ^ m : Nat) : Int) := by
  have hp : 2 ^ m ≤ 2 ^ 32 := Nat.pow_le_pow_right (by decide) hm
  have hpos : 0 < 2 ^ m := Nat.two_pow_pos m
  have key : BitVec.ofNat 64 x &&& ~~~ (BitVec.ofNat 64 (2 ^ m - 1)) = BitVec.ofNat 64 (x - x % 2 ^ m) := by
    have hd : x - x % 2 ^ m = (x / 2 ^ m) * 2 ^ m := by
      have := Nat.div_add_mod x (2 ^ m); rw [Nat.mul_comm] at this; omega
    apply BitVec.eq_of_getLsbD_eq
    intro i hi
    rw [hd, ← Nat.shiftRight_eq_div_pow, ← Nat.shiftLeft_eq]
    simp only [BitVec.getLsbD_and, BitVec.getLsbD_not, BitVec.getLsbD_ofNat, Nat.testBit_two_pow_sub_one, Nat.testBit_shiftLeft, Nat.testBit_shiftRight, hi, decide_true, Bool.true_and]
    by_cases him : m ≤ i
    · rw [show m + (i - m) = i by omega]; simp [him]
    · simp [him]; omega
  have hkey : (BitVec.ofInt 64 (x : Int) &&& ~~~ (BitVec.ofInt 64 ((2 ^ m - 1 : Nat) : Int))) = BitVec.ofNat 64 (x - x % 2 ^ m) := by
    rw [BitVec.ofInt_natCast, BitVec.ofInt_natCast]; exact key
  have hr : x - x % 2 ^ m < 2 ^ 63 := by omega
  unfold bits
  show IntKind.i64.wrap ((BitVec.ofInt 64 (x : Int) &&& ~~~ (BitVec.ofInt 64 ((2 ^ m - 1 : Nat) : Int))).toNat : Int) = _
  rw [hkey, BitVec.toNat_ofNat, Nat.mod_eq_of_lt (by omega)]
  exact wrap_i64' _ (Int.natCast_nonneg _) (by omega)
theorem andNot_sz (x b : Int) (h0 : 0 ≤ x) (h1 : x ≤ 4294967295) : bits .andNot .i64 x (sz b - 1) = x - x % sz b := by
  obtain ⟨n, rfl⟩ := Int.eq_ofNat_of_zero_le h0
  have h := andNot_low n (32 - b.toNat) (by omega) (by omega)
  have hpos : 0 < 2 ^ (32 - b.toNat) := Nat.two_pow_pos _
  have e : sz b - 1 = ((2 ^ (32 - b.toNat) - 1 : Nat) : Int) := by
    unfold sz; rw [Int.natCast_sub hpos]; simp
  rw [e, h]
  have hle : n % 2 ^ (32 - b.toNat) ≤ n := Nat.mod_le _ _
  rw [Int.natCast_sub hle]
  unfold sz
  simp
theorem same_block {a x s : Int} (hs : 0 < s) (ha : a % s = 0) : (x - x % s = a) ↔ (x / s = a / s) := by
  have e1 := Int.mul_ediv_add_emod x s
  have e2 := Int.mul_ediv_add_emod a s
  rw [ha] at e2
  constructor
  · intro h
    have h3 : s * (x / s) = s * (a / s) := by omega
    exact Int.eq_of_mul_eq_mul_left (by omega) h3
  · intro h
    rw [h] at e1
    omega

theorem size_walk (b : Int) (h0 : 0 ≤ b) (h1 : b ≤ 32) (w : World) :
    Calls Try.prog 71 #[.int .i64 b] w fun e w' => e = .returned (.int .i64 (sz b)) ∧ w' = w := by
  go_enter Try.func71, Try.ntmps71
  go_wp2_with fail
  go_loop [3, 4] (fun n t => ∃ i : Int, b ≤ i ∧ i ≤ 32 ∧ t = .int .i64 i ∧ ∃ m : Int, n = .int .i64 m ∧ 0 < m ∧ m ≤ 4294967296 ∧ Hid (m * sz i = sz b)) (fun _ t => (32 - intOf t).toNat)
  case atStart => exact ⟨b, Int.le_refl _, h1, rfl, 1, rfl, by decide, by decide, hide (by omega)⟩
  case round =>
    obtain ⟨i, hi1, hi2, rfl, m, rfl, hm0, hm1, HM⟩ := hrel
    by_cases hlt : i < 32
    · have HS := hide (sz_step i (by omega) hlt)
      have hp := sz_pos (i + 1)
      have hle := sz_le b
      have hm2 : m * 2 ≤ 4294967296 := by
        have e : m * 2 * sz (i + 1) = sz b := by rw [← HM.out, HS.out, Int.mul_assoc, Int.mul_comm 2]
        have : m * 2 * 1 ≤ m * 2 * sz (i + 1) := Int.mul_le_mul_of_nonneg_left (by omega) (by omega)
        omega
      have HE : Hid (m * 2 * sz (i + 1) = sz b) := hide (by rw [← HM.out, HS.out, Int.mul_assoc, Int.mul_comm 2])
      clear hle hp
      go_wp2
      go_round
      case rel => exact ⟨i + 1, by omega, by omega, by go_num, m * 2, by go_num, by omega, hm2, HE⟩
      case measure => simp [intOf]; omega
    · have HE : Hid (m = sz b) := hide (by rw [← HM.out, sz_32 i (by omega)]; omega)
      go_wp2
      go_ret
      exact ⟨ret_int HE.out, rfl⟩
set_option maxHeartbeats 1000000 in
theorem specOK_yes (a b : Int) (w : World) (ha : adrB a = true) (hb : 0 ≤ b ∧ b ≤ 32) :
    Calls Try.prog 50 #[.agg #[.int .i64 a, .int .i64 b]] w fun e w' => e = .returned (.bool (prefB a b)) ∧ Below w.heap.size w w' := by
  have hp := sz_pos b
  have hne : sz b ≠ 0 := by omega
  have hab := adrB_iff.1 ha
  have HP := hide (prefB_true hb.1 hb.2 ha)
  go_enter Try.func50, Try.ntmps50
  go_wp2_with fail
  go_quiet ((first
    | (go_at_call 70; refine Calls.quiet_of_same (specAddrOK_walk _ _))
    | (go_at_call 53; refine Calls.quiet_of_same (In_yes _ _ _ _ hb))
    | (go_at_call 71; refine Calls.quiet_of_same (size_walk _ hb.1 hb.2 _))))
  go_wp2
  go_ret
  exact ⟨ret_bool (by rw [HP.out, Int.tmod_eq_emod_of_nonneg hab.1]), below_drewN ((Below.refl _ _).alloc (Nat.le_refl _) _) nq⟩
set_option maxHeartbeats 1000000 in
theorem specOK_bits (a b : Int) (w : World) (ha : adrB a = true) (hb : ¬ (0 ≤ b ∧ b ≤ 32)) :
    Calls Try.prog 50 #[.agg #[.int .i64 a, .int .i64 b]] w fun e w' => e = .returned (.bool (prefB a b)) ∧ Below w.heap.size w w' := by
  have HP : Hid (prefB a b = false) := hide (by
    by_cases h0 : 0 ≤ b
    · exact prefB_big (fun h1 => hb ⟨h0, h1⟩)
    · exact prefB_neg h0)
  have HB := hide hb
  clear hb
  go_enter Try.func50, Try.ntmps50
  go_wp2_with fail
  go_quiet ((first
    | (go_at_call 70; refine Calls.quiet_of_same (specAddrOK_walk _ _))
    | (go_at_call 53; refine Calls.quiet_of_same (In_no _ _ _ _ HB.out))))
  go_wp2
  go_ret
  exact ⟨ret_bool HP.out.symm, below_drewN ((Below.refl _ _).alloc (Nat.le_refl _) _) nq⟩
set_option maxHeartbeats 1000000 in
theorem specOK_adr (a b : Int) (w : World) (ha : adrB a = false) :
    Calls Try.prog 50 #[.agg #[.int .i64 a, .int .i64 b]] w fun e w' => e = .returned (.bool (prefB a b)) ∧ Below w.heap.size w w' := by
  have HP : Hid (prefB a b = false) := hide (prefB_adr ha)
  go_enter Try.func50, Try.ntmps50
  go_wp2_with fail
  go_quiet ((go_at_call 70; refine Calls.quiet_of_same (specAddrOK_walk _ _)))
  go_wp2
  go_ret
  exact ⟨ret_bool HP.out.symm, below_drewN ((Below.refl _ _).alloc (Nat.le_refl _) _) nq⟩
theorem specPrefixOK_walk (a b : Int) (w : World) :
    Calls Try.prog 50 #[.agg #[.int .i64 a, .int .i64 b]] w fun e w' => e = .returned (.bool (prefB a b)) ∧ Below w.heap.size w w' := by
  by_cases ha : adrB a = true
  · by_cases hb : 0 ≤ b ∧ b ≤ 32
    · exact specOK_yes a b w ha hb
    · exact specOK_bits a b w ha hb
  · exact specOK_adr a b w (by simpa using ha)

theorem boxS_start (w : World) (x y : Value) (t : Nat) : Below w.heap.size w ((w.alloc (.cells #[x, y] t)).drew) ∧ w.heap.size < ((w.alloc (.cells #[x, y] t)).drew).heap.size ∧ ((w.alloc (.cells #[x, y] t)).drew).cell? ⟨w.heap.size, 0, none⟩ = some x ∧ ((w.alloc (.cells #[x, y] t)).drew).cell? ⟨w.heap.size, 1, none⟩ = some y := by
  refine ⟨((Below.refl _ _).alloc (Nat.le_refl _) _).drew, ?_, ?_, ?_⟩
  · show w.heap.size < (w.alloc _).heap.size
    rw [World.size_alloc]; omega
  · show (w.alloc _).cell? _ = _
    exact cell_of_row _ w.heap.size 0 #[x, y] t (0, 0) (heap_alloc_new w _)
  · show (w.alloc _).cell? _ = _
    exact cell_of_row _ w.heap.size 1 #[x, y] t (0, 0) (heap_alloc_new w _)
theorem boxS_below {w w1 w2 : World} {x y : Value} (h : Below w.heap.size w w1 ∧ w.heap.size < w1.heap.size ∧ w1.cell? ⟨w.heap.size, 0, none⟩ = some x ∧ w1.cell? ⟨w.heap.size, 1, none⟩ = some y) (hb : Below w1.heap.size w1 w2) :
    Below w.heap.size w w2 ∧ w.heap.size < w2.heap.size ∧ w2.cell? ⟨w.heap.size, 0, none⟩ = some x ∧ w2.cell? ⟨w.heap.size, 1, none⟩ = some y := by
  refine ⟨h.1.trans (hb.mono (by omega)), by have := hb.size; omega, ?_, ?_⟩
  · rw [hb.cell (p := ⟨w.heap.size, 0, none⟩) h.2.1]; exact h.2.2.1
  · rw [hb.cell (p := ⟨w.heap.size, 1, none⟩) h.2.1]; exact h.2.2.2

theorem wrap_div {x s : Int} (h0 : 0 ≤ x) (h1 : x ≤ 4294967295) (hs : 0 < s) : IntKind.i64.wrap (x.tdiv s) = x / s := by
  rw [Int.tdiv_eq_ediv_of_nonneg h0]
  have h2 : 0 ≤ x / s := Int.ediv_nonneg h0 (by omega)
  have h3 : x / s ≤ x := Int.ediv_le_self s h0
  exact wrap_i64' _ h2 (by omega)

theorem hasB_no {a b x : Int} (h : prefB a b = false) : hasB a b x = false := by unfold hasB; simp [h]
theorem hasB_adr {a b x : Int} (h : adrB x = false) : hasB a b x = false := by unfold hasB; simp [h]
theorem hasB_yes {a b x : Int} (h : prefB a b = true) (hx : adrB x = true) : hasB a b x = (x / sz b == a / sz b) := by unfold hasB; simp [h, hx]
theorem hasB_impl {a b x : Int} (h : prefB a b = true) (hx : adrB x = true) : hasB a b x = (x - x % sz b == a) := by
  rw [hasB_yes h hx, Bool.eq_iff_iff, beq_iff_eq, beq_iff_eq]
  exact (same_block (sz_pos b) (prefB_iff.1 h).2.2.2).symm


/-- A box laid at the world's end, and kept. -/
def BoxV (w W : World) (vs : Array Value) (T : Nat) : Prop := Below w.heap.size w W ∧ w.heap.size < W.heap.size ∧ W.heap[w.heap.size]? = some (.cells vs T)
theorem BoxV.start (w : World) (vs : Array Value) (T : Nat) : BoxV w (w.alloc (.cells vs T)) vs T :=
  ⟨(Below.refl _ _).alloc (Nat.le_refl _) _, by rw [World.size_alloc]; omega, heap_alloc_new _ _⟩
theorem BoxV.next {w W W' : World} {vs : Array Value} {T : Nat} (h : BoxV w W vs T) (hb : Below W.heap.size W W') : BoxV w W' vs T :=
  ⟨h.1.trans (hb.mono (Nat.le_of_lt h.2.1)), Nat.lt_of_lt_of_le h.2.1 hb.size, (hb.block _ h.2.1).trans h.2.2⟩
theorem BoxV.keep {w W W' : World} {vs : Array Value} {T B : Nat} (h : BoxV w W vs T) (hb : Below B W W') (hB : w.heap.size < B) : BoxV w W' vs T :=
  ⟨h.1.trans (hb.mono (Nat.le_of_lt hB)), Nat.lt_of_lt_of_le h.2.1 hb.size, (hb.block _ hB).trans h.2.2⟩
def HoldV (w : World) (H : Nat) (vs : Array Value) (T : Nat) : Prop := w.heap[H]? = some (.cells vs T)
theorem HoldV.lt {w : World} {H T : Nat} {vs : Array Value} (h : HoldV w H vs T) : H < w.heap.size := (Array.getElem?_eq_some_iff.1 h).1
theorem HoldV.below {w w' : World} {H T B : Nat} {vs : Array Value} (h : HoldV w H vs T) (hb : Below B w w') (hB : H < B) : HoldV w' H vs T := (hb.block H hB).trans h
theorem HoldV.next {w w' : World} {H T : Nat} {vs : Array Value} (h : HoldV w H vs T) (hb : Below w.heap.size w w') : HoldV w' H vs T := h.below hb h.lt
theorem HoldV.cell {w : World} {H T : Nat} {vs : Array Value} (h : HoldV w H vs T) (i : Nat) (v : Value) (hv : vs[i]? = some v) : w.cell? ⟨H, i, none⟩ = some v := (cell_of_row _ _ _ _ _ _ h).trans hv
theorem HoldV.frozen {w : World} {H T : Nat} {vs : Array Value} (h : HoldV w H vs T) (o : Nat) : w.frozen? ⟨H, o, none⟩ = false := frozen_of_row w H o _ _ h
theorem two_allocs (w : World) (o1 o2 : Obj) : Below w.heap.size w ((w.alloc o1).alloc o2) ∧ ((w.alloc o1).alloc o2).heap[w.heap.size]? = some o1 ∧ ((w.alloc o1).alloc o2).heap[w.heap.size + 1]? = some o2 := by
  have s1 := World.size_alloc w o1
  refine ⟨((Below.refl _ _).alloc (Nat.le_refl _) _).alloc (by omega) _, ?_, ?_⟩
  · rw [((Below.refl (w.alloc o1).heap.size _).alloc (Nat.le_refl _) o2).block w.heap.size (by omega)]; exact heap_alloc_new _ _
  · rw [← s1]; exact heap_alloc_new _ _
theorem BoxV.cell {w W : World} {vs : Array Value} {T : Nat} (h : BoxV w W vs T) (i : Nat) (v : Value) (hv : vs[i]? = some v) : W.cell? ⟨w.heap.size, i, none⟩ = some v := cell_of_row _ _ _ _ _ _ h.2.2 |>.trans hv
theorem lt_cell {w : World} {b i : Nat} {v : Value} (h : w.cell? ⟨b, i, none⟩ = some v) : b < w.heap.size := by
  rcases Nat.lt_or_ge b w.heap.size with h' | h'
  · exact h'
  · simp [World.cell?, Array.getElem?_eq_none h'] at h
end Go.Proofs.Ytgegnkboibgbgaa
