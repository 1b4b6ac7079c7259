/-
Contracts of functions of this seat.
-/
import Derived.Test.YtcnfnimgpiaamaaDoorRows
import Derived.WalkKit
import Derived.ProofKit
import Derived.OpenShut
import Derived.Deep.QuietTactic
import Derived.Below
import Derived.Laws.Externs
import Derived.OwnWalk
import Derived.BigQuiet
import Derived.ArgAppend
import Derived.RegionTactic
import Derived.ChangeAlike
import Derived.Laws.IdiomStrings
import Derived.Laws.BytesArg
import Derived.Deep.RegionHeld3
import Derived.Deep.CutRange
namespace Go.Proofs.YtcnfnimgpiaamaaDoor
open Go.ChangeShapes Go.WideShapes Go.ChangeAt Go.RowKit
set_option linter.unusedVariables false
set_option maxRecDepth 100000
theorem i64_bd {a : Int} (h : (Lit.int .i64 a).wf = true) : -9223372036854775808 ≤ a ∧ a ≤ 9223372036854775807 := by
  simpa [Lit.wf, IntKind.min, IntKind.max, IntKind.signed, IntKind.bits] using h
theorem ret_int {k : IntKind} {a b : Int} (h : a = b) : Ending.returned (.int k a) = .returned (.int k b) := by rw [h]
theorem ret_bool {a b : Bool} (h : a = b) : Ending.returned (.bool a) = .returned (.bool b) := by rw [h]
theorem hide {P : Prop} (h : P) : Hid P := h
theorem below_drewN {B : Nat} {a w : World} (h : Below B a w) (n : Nat) : Below B a (w.drewN n) := ⟨h.os, h.tape, h.output, h.size, h.block⟩
theorem below_undrew {B : Nat} {w w' : World} (h : Below B w.drew w') : Below B w w' := ⟨h.os, h.tape, h.output, h.size, h.block⟩

/-- 'x & (2^i - 1)' is x modulo 2^i, also of a number below 0. -/
theorem and_mask (k : IntKind) (i : Nat) (hi : i ≤ k.bits) (hk : ∀ n : Int, 0 ≤ n → n < 2 ^ i → k.wrap n = n) (x : Int) :
    bits .and k x ((2 ^ i - 1 : Nat) : Int) = x % 2 ^ i := by
  have hpos : 0 < 2 ^ i := Nat.two_pow_pos i
  have hle : 2 ^ i ≤ 2 ^ k.bits := Nat.pow_le_pow_right (by decide) hi
  have hm : (2 ^ i - 1) % 2 ^ k.bits = 2 ^ i - 1 := Nat.mod_eq_of_lt (by omega)
  have hd : (2 ^ i : Int) ∣ 2 ^ k.bits := by
    obtain ⟨c, hc⟩ := Nat.pow_dvd_pow 2 hi
    exact ⟨(c : Int), by exact_mod_cast hc⟩
  have hx : (((x % (2 ^ k.bits : Nat)).toNat % 2 ^ i : Nat) : Int) = x % 2 ^ i := by
    have h0 : 0 ≤ x % ((2 ^ k.bits : Nat) : Int) := Int.emod_nonneg _ (by have := Nat.two_pow_pos k.bits; omega)
    rw [Int.natCast_emod, Int.toNat_of_nonneg h0]
    push_cast
    exact Int.emod_emod_of_dvd x hd
  have hn : (x % (2 ^ k.bits : Nat)).toNat &&& (2 ^ i - 1) = (x % (2 ^ k.bits : Nat)).toNat % 2 ^ i := Nat.and_two_pow_sub_one_eq_mod _ _
  simp only [bits, BitVec.ofInt_natCast, BitVec.toNat_and, BitVec.toNat_ofNat, BitVec.toNat_ofInt, hm, hn, hx]
  exact hk _ (Int.emod_nonneg _ (by have : (0 : Int) < 2 ^ i := by exact_mod_cast hpos
                                    omega)) (Int.emod_lt_of_pos _ (by exact_mod_cast hpos))
theorem wrap_i64' (n : Int) (h0 : 0 ≤ n) (h1 : n ≤ 9223372036854775807) : IntKind.i64.wrap n = n := by rw [IntKind.wrap_i64]; omega
theorem wrap_u64 (n : Int) : IntKind.u64.wrap n = n % 18446744073709551616 := by simp [IntKind.wrap, IntKind.bits, IntKind.signed]
theorem wrap_u16 (n : Int) : IntKind.u16.wrap n = n % 65536 := by simp [IntKind.wrap, IntKind.bits, IntKind.signed]
theorem and_65535_i64 (x : Int) : bits .and .i64 x 65535 = x % 65536 :=
  and_mask .i64 16 (by decide) (fun n h0 h1 => wrap_i64' n h0 (by omega)) x
theorem and_255_i64 (x : Int) : bits .and .i64 x 255 = x % 256 :=
  and_mask .i64 8 (by decide) (fun n h0 h1 => wrap_i64' n h0 (by omega)) x
theorem and_1_i64 (x : Int) : bits .and .i64 x 1 = x % 2 :=
  and_mask .i64 1 (by decide) (fun n h0 h1 => wrap_i64' n h0 (by omega)) x
theorem and_65535_u64 (x : Int) : bits .and .u64 x 65535 = x % 65536 :=
  and_mask .u64 16 (by decide) (fun n h0 h1 => by rw [wrap_u64]; omega) x
theorem and_1_u32 (x : Int) : bits .and .u32 x 1 = x % 2 :=
  and_mask .u32 1 (by decide) (fun n h0 h1 => by rw [IntKind.wrap_u32]; omega) x
theorem and_15_u8 (x : Int) : bits .and .u8 x 15 = x % 16 :=
  and_mask .u8 4 (by decide) (fun n h0 h1 => by rw [IntKind.wrap_u8]; omega) x
/-- '^x' of an unsigned number: what is lacking to the greatest. -/
theorem not_of (k : IntKind) (hu : k.signed = false) (x : Int) (h0 : 0 ≤ x) (h1 : x < 2 ^ k.bits) : bits .xor k k.max x = k.max - x := by
  obtain ⟨a, rfl⟩ := Int.eq_ofNat_of_zero_le h0
  have ha : a < 2 ^ k.bits := by exact_mod_cast h1
  have hpos : 0 < 2 ^ k.bits := Nat.two_pow_pos _
  have hmax : k.max = ((2 ^ k.bits - 1 : Nat) : Int) := by
    unfold IntKind.max
    rw [if_neg (by simp [hu]), Int.natCast_sub hpos]; simp
  have hall : BitVec.ofInt k.bits k.max = BitVec.allOnes k.bits := by
    rw [hmax, BitVec.ofInt_natCast]; apply BitVec.eq_of_toNat_eq; simp
  have hw : ∀ n : Nat, n < 2 ^ k.bits → k.wrap n = n := by
    intro n hn
    unfold IntKind.wrap
    simp only [hu, Bool.false_and]
    rw [if_neg (by simp)]
    exact_mod_cast Nat.mod_eq_of_lt hn
  unfold bits
  simp only [hall, BitVec.allOnes_xor, BitVec.toNat_not, BitVec.ofInt_natCast, BitVec.toNat_ofNat, Nat.mod_eq_of_lt ha]
  rw [hw _ (by omega), hmax]
  omega
theorem not_u16 (n : Int) : bits .xor .u16 IntKind.u16.max (n % 65536) = 65535 - n % 65536 :=
  not_of .u16 rfl (n % 65536) (by omega) (by show _ < (65536 : Int); omega)
theorem not_u32 (n : Int) (h0 : 0 ≤ n) (h1 : n < 4294967296) : bits .xor .u32 IntKind.u32.max n = 4294967295 - n :=
  not_of .u32 rfl n h0 (by show _ < (4294967296 : Int); omega)
theorem signed_u16 : IntKind.u16.signed = false := rfl
theorem signed_u32 : IntKind.u32.signed = false := rfl

/-- The text of a row of bytes. -/
def bs (l : List UInt8) : ByteArray := ⟨l.toArray⟩
theorem bs_size (l : List UInt8) : (bs l).size = l.length := by show l.toArray.size = _; simp
theorem bs_data (s : ByteArray) : bs s.data.toList = s := by unfold bs; simp
theorem bs_get {l : List UInt8} {i : Nat} (h : i < l.length) : (bs l)[i]'(by rw [bs_size]; exact h) = l[i] := by
  show (l.toArray)[i]'(by simpa using h) = _
  simp
theorem bs_get! {l : List UInt8} {i : Nat} (h : i < l.length) : (bs l)[i]! = l[i] := by
  rw [getElem!_pos (bs l) i (by rw [bs_size]; exact h), bs_get h]
theorem bs_extract (l : List UInt8) (a b : Nat) : (bs l).extract a b = bs ((l.drop a).take (b - a)) := by
  apply ByteArray.ext
  rw [ByteArray.data_extract]
  show l.toArray.extract a b = ((l.drop a).take (b - a)).toArray
  rw [List.extract_toArray, List.extract_eq_take_drop]
theorem bs_inj {a b : List UInt8} (h : bs a = bs b) : a = b := by
  unfold bs at h; simpa using h
theorem bs_toList (l : List UInt8) : (bs l).toList = l := by rw [ByteArray.toList_eq]; unfold bs; simp
theorem firstIdx_yes (a b : List UInt8) (c : UInt8) (h : c ∉ a) : firstIdx (bs (a ++ c :: b)) c = (a.length : Int) := by
  have hl : a.length < (a ++ c :: b).length := by simp
  have e : (List.range (bs (a ++ c :: b)).size).find? (fun i => (bs (a ++ c :: b))[i]! == c) = some a.length := by
    rw [List.find?_range_eq_some]
    refine ⟨?_, by rw [List.mem_range, bs_size]; exact hl, fun j hj => ?_⟩
    · rw [bs_get! hl]; simp
    · rw [bs_get! (by omega), List.getElem_append_left hj]
      simp only [Bool.not_eq_true', beq_eq_false_iff_ne]
      intro e; exact h (e ▸ List.getElem_mem hj)
  unfold firstIdx; rw [e]
theorem firstIdx_no (l : List UInt8) (c : UInt8) (h : c ∉ l) : firstIdx (bs l) c = -1 := by
  have e : (List.range (bs l).size).find? (fun i => (bs l)[i]! == c) = none := by
    rw [List.find?_range_eq_none]
    intro i hi
    rw [bs_size] at hi
    rw [bs_get! hi]
    simp only [Bool.not_eq_true', beq_eq_false_iff_ne]
    intro e; exact h (e ▸ List.getElem_mem hi)
  unfold firstIdx; rw [e]
theorem Tryd.infoS : (Tryd.prog.info? 9).map (fun i => (i.zero, i.size, i.bytes)) = some (some (.string ⟨#[]⟩), 1, 16) := by kernel_rfl

/-- The bytes of a slice whose array begins at a: zs, from the first on. -/
def Arr (w : World) (a : Option Addr) (zs : List Int) : Prop :=
  (∀ z ∈ zs, 0 ≤ z ∧ z ≤ 255) ∧ ∀ j, j < zs.length → ∃ b off, a = some ⟨b, off, none⟩ ∧ b < w.heap.size ∧ w.cell? ⟨b, off + j, none⟩ = some (.int .u8 (zs.getD j 0))
theorem Arr.below {B : Nat} {w w' : World} {a : Option Addr} {zs : List Int} (h : Arr w a zs) (hb : Below B w w') (hB : w.heap.size ≤ B) : Arr w' a zs := by
  refine ⟨h.1, fun j hj => ?_⟩
  obtain ⟨b, off, ha, hlt, hc⟩ := h.2 j hj
  exact ⟨b, off, ha, by have := hb.size; omega, by rw [hb.cell (p := ⟨b, off + j, none⟩) (by show b < B; omega)]; exact hc⟩
theorem getD_bd {zs : List Int} (h : ∀ z ∈ zs, 0 ≤ z ∧ z ≤ 255) (j : Nat) : 0 ≤ zs.getD j 0 ∧ zs.getD j 0 ≤ 255 := by
  by_cases hj : j < zs.length
  · rw [List.getD_eq_getElem?_getD, List.getElem?_eq_getElem hj]; exact h _ (List.getElem_mem hj)
  · rw [List.getD_eq_getElem?_getD, List.getElem?_eq_none (by omega)]; simp
theorem grown_trans {a b c : World} {row : Option Nat} (h : a.grownBy b row) (k : b.grownBy c row) : a.grownBy c row :=
  ⟨k.os.trans h.os, k.tape.trans h.tape, k.output.trans h.output, Nat.le_trans h.size k.size, fun i hi hr => (k.block i (Nat.lt_of_lt_of_le hi h.size) hr).trans (h.block i hi hr)⟩

theorem eqByteS_walk (a b : Option Addr) (n c1 c2 : Nat) (zs : List Int) (w : World) (hn : zs.length = n) (ha : Arr w a zs) (hb : Arr w b zs) (hm : n ≤ 1048576) :
    Calls Tryd.prog 15 #[.slice a n c1, .slice b n c2] w fun e w' => e = .returned (.bool true) ∧ Below w.heap.size w w' ∧ w'.heap.size = w.heap.size := by
  have HN := hide hn
  have HA := hide ha
  have HB := hide hb
  clear hn ha hb
  go_enter Tryd.func15, Tryd.ntmps15
  go_wp2_with fail
  go_loopw [5] (fun t w2 => ∃ k : Nat, k ≤ n ∧ t = .int .i64 k ∧ Below w.heap.size w w2 ∧ w2.heap.size = w.heap.size) (fun t _ => n - (intOf t).toNat)
  case atStart => exact ⟨0, Nat.zero_le _, rfl, Below.refl _ _, rfl⟩
  case round =>
    obtain ⟨k, hk, rfl, hbel, hsz⟩ := hrel
    have HS := hide hsz
    clear hsz
    by_cases hlt : k < n
    · obtain ⟨b1, o1, rfl, hb1, hc1⟩ := HA.out.2 k (by rw [HN.out]; exact hlt)
      obtain ⟨b2, o2, rfl, hb2, hc2⟩ := HB.out.2 k (by rw [HN.out]; exact hlt)
      have g1 : wr.cell? ⟨b1, o1 + k, none⟩ = some (.int .u8 (zs.getD k 0)) := by rw [hbel.cell (p := ⟨b1, o1 + k, none⟩) hb1]; exact hc1
      have g2 : wr.cell? ⟨b2, o2 + k, none⟩ = some (.int .u8 (zs.getD k 0)) := by rw [hbel.cell (p := ⟨b2, o2 + k, none⟩) hb2]; exact hc2
      clear hc1 hc2
      generalize zs.getD k 0 = z at g1 g2
      go_wp2
      go_quiet (fail)
      go_wp2
      exact ⟨⟨k + 1, by omega, by go_num, below_drewN hbel nq, HS.out⟩, by simp [intOf]; omega⟩
    · go_wp2
      go_ret
      exact ⟨rfl, hbel, HS.out⟩

/-- A number out of bytes, the highest first. -/
def tnum (zs : List Int) : Int := zs.foldl (fun n x => n * 256 + x) 0
theorem tnum_take (zs : List Int) (k : Nat) (h : k < zs.length) : tnum (zs.take (k + 1)) = tnum (zs.take k) * 256 + zs.getD k 0 := by
  unfold tnum
  rw [List.take_succ_eq_append_getElem h, List.foldl_append]
  simp [List.getD_eq_getElem?_getD, h]
theorem tnum_bd (zs : List Int) (h : ∀ z ∈ zs, 0 ≤ z ∧ z ≤ 255) : ∀ k, k ≤ zs.length → 0 ≤ tnum (zs.take k) ∧ tnum (zs.take k) < 256 ^ k
  | 0, _ => by simp [tnum]
  | k + 1, hk => by
    have ih := tnum_bd zs h k (by omega)
    rw [tnum_take zs k (by omega), Int.pow_succ]
    have := getD_bd h k
    omega
theorem or_low_i64 (x y : Int) (hx : 0 ≤ x) (hx1 : x < 36028797018963968) (hy : 0 ≤ y ∧ y ≤ 255) : bits .or .i64 (x * 256) y = x * 256 + y :=
  bits_join .i64 63 (by decide) (fun n h0 h1 => wrap_i64' n h0 (by have : n < 2 ^ 63 := h1; omega)) 8 (x * 256) y (by omega) (by show x * 256 % 256 = 0; omega) (by show x * 256 < 9223372036854775808; omega) hy.1 (by show y < 256; omega) (by show y < 9223372036854775808; omega)

/-- The j-th of n bytes of v, the highest first. -/
def byteOf (v : Int) (n j : Nat) : Int := v / 2 ^ (8 * (n - 1 - j)) % 256
theorem byteOf_bd (v : Int) (n j : Nat) : 0 ≤ byteOf v n j ∧ byteOf v n j ≤ 255 := by unfold byteOf; omega

theorem Tryd.infoB : (Tryd.prog.info? 5).map (fun i => (i.zero, i.size, i.bytes)) = some (some (.int .u8 0), 1, 1) := by kernel_rfl
def bval (zs : List Int) : List Value := zs.map (Value.int .u8)
/-- A slice of bytes zs in memory of this call's own, from block B on. -/
def OwnB (w : World) (B : Nat) (v : Value) (zs : List Int) : Prop := w.ownsRow B 5 1 v zs.length (bval zs) ∧ ∀ z ∈ zs, 0 ≤ z ∧ z ≤ 255
theorem bval_get (zs : List Int) (j : Nat) (h : j < zs.length) : (bval zs)[j]? = some (.int .u8 (zs.getD j 0)) := by
  unfold bval; rw [List.getElem?_map, List.getElem?_eq_getElem h, List.getD_eq_getElem?_getD, List.getElem?_eq_getElem h]; rfl
theorem OwnB.arr {w : World} {B : Nat} {v : Value} {zs : List Int} (h : OwnB w B v zs) : ∃ a cap, v = .slice a zs.length cap ∧ Arr w a zs ∧ zs.length ≤ cap := by
  rcases h.1.2 with ⟨hv, hn⟩ | ⟨g, cap, cur, hv, hB, hg, hnc, hcm, hcs, htake⟩
  · have : zs = [] := List.length_eq_zero_iff.1 hn
    subst this
    exact ⟨none, 0, hv, ⟨by simp, fun j hj => by simp at hj⟩, Nat.le_refl _⟩
  · refine ⟨some ⟨g, 0, none⟩, cap, hv, ⟨h.2, fun j hj => ⟨g, 0, rfl, ?_, ?_⟩⟩, hnc⟩
    · by_cases hlt : g < w.heap.size
      · exact hlt
      · rw [Array.getElem?_eq_none (by omega)] at hg; cases hg
    · have hc := (hv ▸ h.1 : w.ownsRow B 5 1 (.slice (some ⟨g, 0, none⟩) zs.length cap) zs.length (bval zs)).cellAt j (by omega)
      rw [Nat.zero_add, hc, bval_get zs j hj]
theorem oneCells (zs : List Int) : ∀ u ∈ bval zs, u.oneCell' = true := by
  intro u hu
  unfold bval at hu
  obtain ⟨z, _, rfl⟩ := List.mem_map.1 hu
  rfl
theorem OwnB.app {w : World} {B : Nat} {v : Value} {xs ys : List Int} {n : Nat} (h : w.ownsRow B 5 1 v n (bval xs ++ bval ys)) (hn : n = xs.length + ys.length) (hx : ∀ z ∈ xs, 0 ≤ z ∧ z ≤ 255) (hy : ∀ z ∈ ys, 0 ≤ z ∧ z ≤ 255) : OwnB w B v (xs ++ ys) := by
  refine ⟨?_, fun z hz => ?_⟩
  · have e : bval (xs ++ ys) = bval xs ++ bval ys := by unfold bval; rw [List.map_append]
    rw [e, List.length_append, ← hn]; exact h
  · rcases List.mem_append.1 hz with h | h
    · exact hx z h
    · exact hy z h
theorem news_arr {w : World} {b off : Nat} {zs : List Int} (h : Arr w (some ⟨b, off, none⟩) zs) : ∀ j u, (bval zs)[j]? = some u → w.cell? ((⟨b, off, none⟩ : Addr).add j) = some u := by
  intro j u hu
  have hj : j < zs.length := by
    have := (List.getElem?_eq_some_iff.1 hu).1
    simpa [bval] using this
  obtain ⟨b', off', e, _, hc⟩ := h.2 j hj
  simp only [Option.some.injEq, Addr.mk.injEq, and_true] at e
  obtain ⟨rfl, rfl⟩ := e
  rw [bval_get zs j hj] at hu
  rw [Addr.add_lit, hc]; exact hu
theorem cell_one (w : World) (z : Int) (t : Nat) : ∀ j u, (bval [z])[j]? = some u → (w.alloc (.cells #[.int .u8 z] t)).cell? ((⟨w.heap.size, 0, none⟩ : Addr).add j) = some u := by
  intro j u hu
  match j with
  | 0 =>
    simp [bval] at hu
    subst hu
    rw [Addr.add_lit]
    exact cell_of_row _ w.heap.size 0 _ t (0, 0) (heap_alloc_new w _)
  | k + 1 => simp [bval] at hu
theorem OwnB.form {w : World} {B : Nat} {v : Value} {zs : List Int} (h : OwnB w B v zs) (hp : 0 < zs.length) : ∃ g cap, v = .slice (some ⟨g, 0, none⟩) zs.length cap ∧ B ≤ g ∧ g < w.heap.size := by
  rcases h.1.2 with ⟨_, hn⟩ | ⟨g, cap, cur, hv, hB, hg, _⟩
  · omega
  · refine ⟨g, cap, hv, hB, ?_⟩
    by_cases hlt : g < w.heap.size
    · exact hlt
    · rw [Array.getElem?_eq_none (by omega)] at hg; cases hg

/-- Where a source is being made: its place in the answer, and the source itself. -/
def Made (w w2 : World) (t : Nat) (a : Option Addr) (n cap : Nat) : Prop :=
  Below w.heap.size w w2 ∧ w.heap.size + 1 < w2.heap.size ∧ w2.heap[w.heap.size]? = some (.cells #[.slice none 0 0, .int .i64 0, .int .u64 0] t) ∧
    ∃ st : Int, 0 ≤ st ∧ st ≤ 18446744073709551615 ∧ w2.heap[w.heap.size + 1]? = some (.cells #[.slice a n cap, .int .i64 0, .int .u64 st] t)
theorem made_start (w : World) (t : Nat) (a : Option Addr) (n cap : Nat) (st : Int) (h0 : 0 ≤ st) (h1 : st ≤ 18446744073709551615) :
    Made w ((w.alloc (.cells #[.slice none 0 0, .int .i64 0, .int .u64 0] t)).alloc (.cells #[.slice a n cap, .int .i64 0, .int .u64 st] t)) t a n cap := by
  refine ⟨((Below.refl _ _).alloc (Nat.le_refl _) _).alloc (by rw [World.size_alloc]; omega) _, by rw [World.size_alloc, World.size_alloc]; omega, ?_, st, h0, h1, ?_⟩
  · rw [Below.heap_alloc _ _ w.heap.size (by rw [World.size_alloc]; omega)]; exact heap_alloc_new w _
  · have h := heap_alloc_new (w.alloc (.cells #[.slice none 0 0, .int .i64 0, .int .u64 0] t)) (.cells #[.slice a n cap, .int .i64 0, .int .u64 st] t)
    rw [World.size_alloc] at h; exact h
theorem made_set {w w2 : World} {t : Nat} {a : Option Addr} {n cap : Nat} (h : Made w w2 t a n cap) (s : Int) (h0 : 0 ≤ s) (h1 : s ≤ 18446744073709551615) :
    Made w (w2.setCell ⟨w.heap.size + 1, 2, none⟩ (.int .u64 s)).drew t a n cap := by
  obtain ⟨hb, hz, hr, st, _, _, hg⟩ := h
  refine ⟨(hb.setCell (p := ⟨w.heap.size + 1, 2, none⟩) (by show w.heap.size ≤ w.heap.size + 1; omega) _).drew, ?_, ?_, s, h0, h1, ?_⟩
  · show _ < (w2.setCell _ _).heap.size
    simpa using hz
  · show (w2.setCell _ _).heap[w.heap.size]? = _
    rw [heap_setCell_other w2 ⟨w.heap.size + 1, 2, none⟩ w.heap.size _ (by simp)]; exact hr
  · exact heap_setCell_same w2 (w.heap.size + 1) 2 _ t _ hg

theorem OwnB.kept {w w' : World} {B : Nat} {v : Value} {zs : List Int} {row : Option Nat} (h : OwnB w B v zs) (hg : w.grownBy w' row) (hne : v.ownBlock = none ∨ v.ownBlock ≠ row) : OwnB w' B v zs := ⟨h.1.kept hg hne, h.2⟩
theorem OwnB.below {w w' : World} {B C : Nat} {v : Value} {zs : List Int} (h : OwnB w B v zs) (hb : Below C w w') (hC : ∀ k, v.ownBlock = some k → k < C) : OwnB w' B v zs := by
  refine ⟨⟨h.1.1, ?_⟩, h.2⟩
  rcases h.1.2 with h0 | ⟨g, cap, cur, hv, hB, hg, hrest⟩
  · exact .inl h0
  · exact .inr ⟨g, cap, cur, hv, hB, by rw [hb.block g (hC g (by rw [hv]; rfl))]; exact hg, hrest⟩
theorem OwnB.next {w w' : World} {B : Nat} {v : Value} {zs : List Int} (h : OwnB w B v zs) (hb : Below w.heap.size w w') : OwnB w' B v zs := h.below hb (fun k hk => (h.1.lt k hk).2)
/-- A change of one own block leaves what lies below as it is. -/
theorem grown_own {w w' : World} {B : Nat} {v : Value} {zs : List Int} (h : OwnB w B v zs) (hg : w.grownBy w' v.ownBlock) (hB : B ≤ w.heap.size) : Below B w w' :=
  ⟨hg.os, hg.tape, hg.output, hg.size, fun k hk => hg.block k (by omega) (fun e => by have := (h.1.lt k e.symm).1; omega)⟩
theorem OwnB.mono {w : World} {B C : Nat} {v : Value} {zs : List Int} (h : OwnB w B v zs) (hC : C ≤ B) : OwnB w C v zs := by
  refine ⟨⟨h.1.1, ?_⟩, h.2⟩
  rcases h.1.2 with h0 | ⟨g, cap, cur, hv, hB, hg, hrest⟩
  · exact .inl h0
  · exact .inr ⟨g, cap, cur, hv, by omega, hg, hrest⟩
theorem OwnB.setBelow {w : World} {B : Nat} {v : Value} {zs : List Int} (h : OwnB w B v zs) {a : Addr} (ha : a.block < B) (u : Value) : OwnB (w.setCell a u) B v zs := ⟨ownsRow_setCell_below h.1 ha u, h.2⟩
theorem OwnB.drew {w : World} {B : Nat} {v : Value} {zs : List Int} (h : OwnB w B v zs) : OwnB w.drew B v zs := ⟨h.1.drew, h.2⟩

theorem set_known {xs : List Value} {k : Nat} {f : Nat → Value} (hk : k < xs.length) (h : ∀ j, j < k → xs[j]? = some (f j)) : ∀ j, j < k + 1 → (xs.set k (f k))[j]? = some (f j) := by
  intro j hj
  by_cases e : j = k
  · subst e; simp [hk]
  · rw [List.getElem?_set_ne (fun h => e h.symm)]; exact h j (by omega)
theorem bval_known {xs : List Value} {zs : List Int} (hl : xs.length = zs.length) (h : ∀ j, j < zs.length → xs[j]? = some (.int .u8 (zs.getD j 0))) : xs = bval zs := by
  apply List.ext_getElem?
  intro j
  by_cases hj : j < zs.length
  · rw [h j hj, bval_get zs j hj]
  · rw [List.getElem?_eq_none (by omega), List.getElem?_eq_none (by unfold bval; rw [List.length_map]; omega)]
theorem toByteS_own (a : Option Addr) (n cap : Nat) (zs : List Int) (w : World) (hn : zs.length = n) (h : Arr w a zs) (hm : n ≤ 1048576) :
    Calls Tryd.prog 13 #[.slice a n cap] w fun e w' => e = .returned (.slice (some ⟨w.heap.size, 0, none⟩) n n) ∧ OwnB w' w.heap.size (.slice (some ⟨w.heap.size, 0, none⟩) n n) zs ∧ Below w.heap.size w w' := by
  obtain ⟨i, hi, hz0, hz1, hz2⟩ := info_parts Tryd.infoB
  have HN : Hid (zs.length = n) := hn
  clear hn
  have HA : Hid (Arr w a zs) := h
  clear h
  go_enter Tryd.func13, Tryd.ntmps13
  go_wp2_with (first | (at_make; refine wpList_make_full _ rfl _ _ 23 rfl w.heap.size 5 i _ 1 Tryd.underlying23 hi hz0 hz1 _ _ _ _ n rfl rfl rfl rfl (by rw [hz2]; omega) (by unfold maxLen; omega) (Nat.le_refl _) ?_))
  intro w1 hown hgrow
  have hbel : Below w.heap.size w w1 := (Below.refl _ _).grown hgrow (Nat.le_refl _) (fun k hk => by cases hk)
  clear hgrow hi hz0 hz1 hz2
  have HO := hide hown
  clear hown
  go_wp2_with fail
  go_loopw [4] (fun t w2 => ∃ (k : Nat) (xs : List Value), k ≤ n ∧ t = .int .i64 k ∧ Below w.heap.size w w2 ∧ Hid (w2.ownsRow w.heap.size 5 1 (.slice (some ⟨w.heap.size, 0, none⟩) n n) n xs) ∧ Hid (∀ j, j < k → xs[j]? = some (.int .u8 (zs.getD j 0)))) (fun t _ => n - (intOf t).toNat)
  case atStart => exact ⟨0, _, Nat.zero_le _, rfl, hbel, HO, hide (fun j hj => absurd hj (by omega))⟩
  case round =>
    obtain ⟨k, xs, hk, rfl, hb, HO2, HX⟩ := hrel
    by_cases hlt : k < n
    · obtain ⟨b, off, rfl, hbs, hc⟩ := HA.out.2 k (by rw [HN.out]; exact hlt)
      have hc2 : wr.cell? ⟨b, off + k, none⟩ = some (.int .u8 (zs.getD k 0)) := by rw [hb.cell (p := ⟨b, off + k, none⟩) hbs]; exact hc
      clear hc
      have hl : xs.length = n := by have := HO2.out.1; omega
      have hf : wr.frozen? ⟨w.heap.size, k, none⟩ = false := HO2.out.frozenAt k
      obtain ⟨old, hc3⟩ : ∃ old, wr.cell? ⟨w.heap.size, k, none⟩ = some old := ⟨_, by rw [HO2.out.cellAt k (by omega)]; exact List.getElem?_eq_getElem (by omega)⟩
      have HL := hide hl
      clear hl
      go_wp2
      go_roundw
      case rel => exact ⟨k + 1, xs.set k (.int .u8 (zs.getD k 0)), by omega, by go_num, hb.setCell (Nat.le_refl _) _, hide (HO2.out.stored k _).1, hide (set_known (f := fun j => .int .u8 (zs.getD j 0)) (by rw [HL.out]; exact hlt) HX.out)⟩
      case measure => simp [intOf]; omega
    · have hk' : k = n := by omega
      subst hk'
      go_wp2
      go_ret
      refine ⟨rfl, ⟨?_, HA.out.1⟩, hb⟩
      have hN := HN.out
      have hx := bval_known (xs := xs) (zs := zs) (by have := HO2.out.1; omega) (fun j hj => HX.out j (by omega))
      rw [hN, ← hx]
      exact HO2.out

/-- The marks: k and on, as bytes. -/
def marks (k n : Nat) : List Int := (List.range n).map (fun i : Nat => ((k : Int) + (i : Int)) % 256)
theorem marks_len (k n : Nat) : (marks k n).length = n := by unfold marks; simp
theorem marks_succ (k n : Nat) : marks k (n + 1) = marks k n ++ [((k : Int) + (n : Int)) % 256] := by unfold marks; rw [List.range_succ, List.map_append]; rfl
theorem marks_bd (k n : Nat) : ∀ z ∈ marks k n, 0 ≤ z ∧ z ≤ 255 := by
  intro z hz
  obtain ⟨i, _, rfl⟩ := List.mem_map.1 hz
  omega
theorem marks_get (k n i : Nat) (h : i < n) : (marks k n).getD i 0 = ((k : Int) + (i : Int)) % 256 := by
  unfold marks
  rw [List.getD_eq_getElem?_getD, List.getElem?_map, List.getElem?_range h]; rfl
def mkd (k : Nat) (zs : List Int) (i : Nat) : List Int := marks k i ++ zs.drop i
theorem mkd_len (k : Nat) (zs : List Int) (i : Nat) (h : i ≤ zs.length) : (mkd k zs i).length = zs.length := by unfold mkd; rw [List.length_append, marks_len, List.length_drop]; omega
theorem mkd_set (k : Nat) (zs : List Int) (i : Nat) (h : i < zs.length) : (mkd k zs i).set i (((k : Int) + (i : Int)) % 256) = mkd k zs (i + 1) := by
  unfold mkd
  rw [List.set_append_right _ _ (by rw [marks_len]; exact Nat.le_refl _), marks_len, Nat.sub_self, marks_succ, List.append_assoc, List.drop_eq_getElem_cons h, List.set_cons_zero]
  rfl
theorem mkd_end (k : Nat) (zs : List Int) : mkd k zs zs.length = marks k zs.length := by unfold mkd; rw [List.drop_length, List.append_nil]
theorem mkd_zero (k : Nat) (zs : List Int) : mkd k zs 0 = zs := by unfold mkd marks; simp
theorem bval_set (zs : List Int) (i : Nat) (z : Int) : bval (zs.set i z) = (bval zs).set i (.int .u8 z) := by unfold bval; rw [List.map_set]
theorem OwnB.store {w : World} {B g cap n : Nat} {zs : List Int} (h : OwnB w B (.slice (some ⟨g, 0, none⟩) n cap) zs) (hn : zs.length = n) (i : Nat) (z : Int) (h0 : 0 ≤ z) (h1 : z ≤ 255) : OwnB (w.setCell ⟨g, i, none⟩ (.int .u8 z)) B (.slice (some ⟨g, 0, none⟩) n cap) (zs.set i z) ∧ w.grownBy (w.setCell ⟨g, i, none⟩ (.int .u8 z)) (some g) := by
  subst hn
  have hs := h.1.stored i (.int .u8 z)
  refine ⟨⟨?_, ?_⟩, hs.2⟩
  · rw [bval_set, List.length_set]; exact hs.1
  · intro y hy
    rcases List.mem_or_eq_of_mem_set hy with hy | hy
    · exact h.2 y hy
    · subst hy; exact ⟨h0, h1⟩
set_option maxHeartbeats 1000000 in
theorem markB_some (g cap n B : Nat) (zs : List Int) (k : Nat) (w : World) (hn : zs.length = n) (h : OwnB w B (.slice (some ⟨g, 0, none⟩) n cap) zs) (hm : n ≤ 2097152) (hk : k ≤ 4194304) :
    Calls Tryd.prog 16 #[.slice (some ⟨g, 0, none⟩) n cap, .int .i64 (k : Int)] w fun e w' => e = .returned (.int .i64 ((k : Int) + (n : Int))) ∧ OwnB w' B (.slice (some ⟨g, 0, none⟩) n cap) (marks k n) ∧ w.grownBy w' (some g) := by
  have HN := hide hn
  have HO := hide h
  clear hn h
  have hr : w.grownBy w (some g) := ⟨rfl, rfl, rfl, Nat.le_refl _, fun _ _ _ => rfl⟩
  go_enter Tryd.func16, Tryd.ntmps16
  go_wp2_with fail
  go_loopw [1, 5] (fun s t w2 => ∃ i : Nat, i ≤ n ∧ s = .int .i64 ((k : Int) + (i : Int)) ∧ t = .int .i64 i ∧ Hid (OwnB w2 B (.slice (some ⟨g, 0, none⟩) n cap) (mkd k zs i)) ∧ w.grownBy w2 (some g)) (fun _ t _ => n - (intOf t).toNat)
  case atStart => exact ⟨0, Nat.zero_le _, by go_num, rfl, hide (by rw [mkd_zero]; exact HO.out), hr⟩
  case round =>
    obtain ⟨i, hi, rfl, rfl, HO2, hg⟩ := hrel
    have HLN : Hid ((mkd k zs i).length = n) := hide (by rw [mkd_len k zs i (by rw [HN.out]; exact hi)]; exact HN.out)
    by_cases hlt : i < n
    · have hf : wr.frozen? ⟨g, i, none⟩ = false := (by have h := HO2.out.1; rw [HLN.out] at h; exact h.frozenAt i)
      obtain ⟨old, hc⟩ : ∃ old, wr.cell? ⟨g, i, none⟩ = some old := ⟨_, by have h := HO2.out.1; rw [HLN.out] at h; rw [h.cellAt i (by omega), bval_get _ _ (by rw [HLN.out]; exact hlt)]⟩
      have HST := hide (HO2.out.store HLN.out i (((k : Int) + (i : Int)) % 256) (by omega) (by omega))
      have HSET := hide (mkd_set k zs i (by rw [HN.out]; exact hlt))
      go_wp2_with fail
      exact ⟨⟨i + 1, by omega, by go_num, by go_num, hide (by rw [← HSET.out]; exact HST.out.1), grown_trans hg HST.out.2⟩, by simp [intOf]; omega⟩
    · have hi' : i = n := by omega
      subst hi'
      have HE : Hid (mkd k zs i = marks k i) := hide (by have := mkd_end k zs; rw [HN.out] at this; exact this)
      go_wp2_with fail
      go_ret
      exact ⟨rfl, by rw [← HE.out]; exact HO2.out, hg⟩
theorem markB_nil (k : Nat) (w : World) (hk : k ≤ 4194304) :
    Calls Tryd.prog 16 #[.slice none 0 0, .int .i64 (k : Int)] w fun e w' => e = .returned (.int .i64 (k : Int)) ∧ w' = w := by
  go_enter Tryd.func16, Tryd.ntmps16
  go_wp2_with fail
  go_loop [1, 5] (fun s t => s = .int .i64 (k : Int) ∧ t = .int .i64 0) (fun _ _ => 0)
  case atStart => exact ⟨rfl, rfl⟩
  case round =>
    obtain ⟨rfl, rfl⟩ := hrel
    go_wp2_with fail
    go_ret
    exact ⟨rfl, rfl⟩
theorem markB_walk (v : Value) (B : Nat) (zs : List Int) (k : Nat) (w : World) (h : OwnB w B v zs) (hm : zs.length ≤ 2097152) (hk : k ≤ 4194304) :
    Calls Tryd.prog 16 #[v, .int .i64 (k : Int)] w fun e w' => e = .returned (.int .i64 ((k : Int) + (zs.length : Int))) ∧ OwnB w' B v (marks k zs.length) ∧ w.grownBy w' v.ownBlock := by
  rcases h.1.2 with ⟨hv, hn⟩ | ⟨g, cap, cur, hv, _⟩
  · subst hv
    rw [hn]
    refine (markB_nil k w hk).mono ?_
    rintro e w' ⟨rfl, rfl⟩
    exact ⟨by simp, ⟨World.ownsRow_nil w' B 5 1, by simp [marks]⟩, ⟨rfl, rfl, rfl, Nat.le_refl _, fun _ _ _ => rfl⟩⟩
  · subst hv
    exact markB_some g cap _ B zs k w rfl h hm hk
set_option maxHeartbeats 1000000 in
theorem heldB_walk (a : Option Addr) (n cap k : Nat) (w : World) (h : Arr w a (marks k n)) (hm : n ≤ 2097152) (hk : k ≤ 4194304) :
    Calls Tryd.prog 52 #[.slice a n cap, .int .i64 (k : Int)] w fun e w' => e = .returned (.int .i64 ((k : Int) + (n : Int))) ∧ w' = w := by
  have HA := hide h
  clear h
  go_enter Tryd.func52, Tryd.ntmps52
  go_wp2_with fail
  go_loop [1, 5] (fun s t => ∃ i : Nat, i ≤ n ∧ s = .int .i64 ((k : Int) + (i : Int)) ∧ t = .int .i64 i) (fun _ t => n - (intOf t).toNat)
  case atStart => exact ⟨0, Nat.zero_le _, by go_num, rfl⟩
  case round =>
    obtain ⟨i, hi, rfl, rfl⟩ := hrel
    by_cases hlt : i < n
    · obtain ⟨b, off, rfl, hb, hc⟩ := HA.out.2 i (by rw [marks_len]; exact hlt)
      rw [marks_get k n i hlt] at hc
      go_wp2_with fail
      exact ⟨⟨i + 1, by omega, by go_num, by go_num⟩, by simp [intOf]; omega⟩
    · have hi' : i = n := by omega
      subst hi'
      go_wp2_with fail
      go_ret
      exact ⟨rfl, rfl⟩

/-- One bit of the remainder: shifted right, and with the polynomial where a 1 fell out. -/
def crcStep (r : Nat) : Nat := if r % 2 = 1 then (r / 2) ^^^ 3988292384 else r / 2
def crcSteps : Nat → Nat → Nat
  | 0, r => r
  | k + 1, r => crcStep (crcSteps k r)
def crcByte (r : Nat) (z : Int) : Nat := crcSteps 8 (r ^^^ z.toNat)
def crc (zs : List Int) : Nat := zs.foldl crcByte 4294967295
theorem xor_lt {a b : Nat} (ha : a < 4294967296) (hb : b < 4294967296) : a ^^^ b < 4294967296 := Nat.xor_lt_two_pow (n := 32) ha hb
theorem crcStep_lt {r : Nat} (h : r < 4294967296) : crcStep r < 4294967296 := by
  unfold crcStep; split
  · exact xor_lt (by omega) (by decide)
  · omega
theorem crcSteps_lt {r : Nat} (h : r < 4294967296) : ∀ k, crcSteps k r < 4294967296
  | 0 => h
  | k + 1 => crcStep_lt (crcSteps_lt h k)
theorem crcByte_lt {r : Nat} {z : Int} (h : r < 4294967296) (h1 : z ≤ 255) : crcByte r z < 4294967296 := crcSteps_lt (xor_lt h (by omega)) 8
theorem crc_take (zs : List Int) (k : Nat) (h : k < zs.length) : crc (zs.take (k + 1)) = crcByte (crc (zs.take k)) (zs.getD k 0) := by
  unfold crc
  rw [List.take_succ_eq_append_getElem h, List.foldl_append]
  simp [List.getD_eq_getElem?_getD, h]
theorem foldl_lt (zs : List Int) (h : ∀ z ∈ zs, 0 ≤ z ∧ z ≤ 255) : ∀ r, r < 4294967296 → zs.foldl crcByte r < 4294967296 := by
  induction zs with
  | nil => intro r hr; exact hr
  | cons z zs ih => intro r hr; exact ih (fun y hy => h y (List.mem_cons_of_mem _ hy)) _ (crcByte_lt hr (h z (List.mem_cons_self ..)).2)
theorem crc_lt (zs : List Int) (h : ∀ z ∈ zs, 0 ≤ z ∧ z ≤ 255) (k : Nat) : crc (zs.take k) < 4294967296 :=
  foldl_lt _ (fun z hz => h z (List.mem_of_mem_take hz)) _ (by decide)
theorem xor_bits (k : IntKind) (hk : 32 ≤ k.bits) (hw : ∀ n : Int, 0 ≤ n → n < 4294967296 → k.wrap n = n) (a b : Nat) (ha : a < 4294967296) (hb : b < 4294967296) :
    bits .xor k (a : Int) (b : Int) = ((a ^^^ b : Nat) : Int) := by
  have hp : 2 ^ 32 ≤ 2 ^ k.bits := Nat.pow_le_pow_right (by decide) hk
  have ha' : a % 2 ^ k.bits = a := Nat.mod_eq_of_lt (by omega)
  have hb' : b % 2 ^ k.bits = b := Nat.mod_eq_of_lt (by omega)
  simp only [bits, BitVec.ofInt_natCast, BitVec.toNat_xor, BitVec.toNat_ofNat, ha', hb']
  exact hw _ (Int.natCast_nonneg _) (by have := xor_lt ha hb; omega)
theorem xor_i64 (a b : Nat) (ha : a < 4294967296) (hb : b < 4294967296) : bits .xor .i64 (a : Int) (b : Int) = ((a ^^^ b : Nat) : Int) :=
  xor_bits .i64 (by decide) (fun n h0 h1 => wrap_i64' n h0 (by omega)) a b ha hb
theorem xor_u32 (a b : Nat) (ha : a < 4294967296) (hb : b < 4294967296) : bits .xor .u32 (a : Int) (b : Int) = ((a ^^^ b : Nat) : Int) :=
  xor_bits .u32 (by decide) (fun n h0 h1 => by rw [IntKind.wrap_u32]; omega) a b ha hb
theorem half_cast (x : Nat) : ((x : Int) / 2) = ((x / 2 : Nat) : Int) := by omega
theorem poly_i64 (x : Nat) (h : x < 4294967296) : bits .xor .i64 ((x : Int) / 2) 3988292384 = ((x / 2 ^^^ 3988292384 : Nat) : Int) := by
  rw [half_cast]; exact xor_i64 (x / 2) 3988292384 (by omega) (by decide)
theorem poly_u32 (x : Nat) (h : x < 4294967296) : bits .xor .u32 ((x : Int) / 2) 3988292384 = ((x / 2 ^^^ 3988292384 : Nat) : Int) := by
  rw [half_cast]; exact xor_u32 (x / 2) 3988292384 (by omega) (by decide)
theorem step_odd {x : Nat} (h : x % 2 = 1) : crcStep x = x / 2 ^^^ 3988292384 := by unfold crcStep; rw [if_pos h]
theorem step_even {x : Nat} (h : ¬ x % 2 = 1) : crcStep x = x / 2 := by unfold crcStep; rw [if_neg h]

attribute [local go_sem] and_1_i64
set_option maxHeartbeats 1000000 in
theorem l01Copy_walk (a : Option Addr) (n cap : Nat) (zs : List Int) (w : World) (hn : zs.length = n) (ha : Arr w a zs) (hm : n ≤ 2097152) :
    Calls Tryd.prog 39 #[.slice a n cap] w fun e w' => ∃ v : Value, e = .returned v ∧ OwnB w' w.heap.size v zs ∧ Below w.heap.size w w' := by
  obtain ⟨i, hi, hz0, hz1, hz2⟩ := info_parts Tryd.infoB
  have HN := hide hn
  have HA := hide ha
  clear hn ha
  have hst : OwnB (w.alloc (.cells #[] 5)) w.heap.size (.slice (some ⟨w.heap.size, 0, none⟩) 0 0) [] :=
    ⟨World.ownsRow_lit (base := w.heap.size) (e := 5) (size := 1) w #[] 0 (Nat.le_refl _) (by decide) rfl, by simp⟩
  have HST := hide hst
  have hb0 := (Below.refl w.heap.size w).alloc (Nat.le_refl _) (.cells #[] 5)
  clear hst
  go_enter Tryd.func39, Tryd.ntmps39
  go_wp2_with fail
  generalize w.alloc (.cells #[] 5) = W at *
  go_loopw [3, 4] (fun o t w2 => ∃ k : Nat, k ≤ n ∧ t = .int .i64 k ∧ Hid (OwnB w2 w.heap.size o (zs.take k)) ∧ Below w.heap.size w w2) (fun _ t _ => n - (intOf t).toNat)
  case atStart => exact ⟨0, Nat.zero_le _, rfl, HST, hb0⟩
  case round =>
    obtain ⟨k, hk, rfl, HO, hb⟩ := hrel
    clear hb0
    by_cases hlt : k < n
    · have hkz : k < zs.length := by rw [HN.out]; exact hlt
      obtain ⟨b, off, rfl, hbs, hc⟩ := HA.out.2 k hkz
      have hc2 : wr.cell? ⟨b, off + k, none⟩ = some (.int .u8 (zs.getD k 0)) := by rw [hb.cell (p := ⟨b, off + k, none⟩) hbs]; exact hc
      have hzb := getD_bd HA.out.1 k
      have HT : Hid (zs.take (k + 1) = zs.take k ++ [zs.getD k 0]) := hide (by rw [List.take_succ_eq_append_getElem hkz, List.getD_eq_getElem?_getD, List.getElem?_eq_getElem hkz]; rfl)
      have hl : (zs.take k).length = k := by rw [List.length_take]; omega
      have HL := hide hl
      clear hc hl
      generalize zs.getD k 0 = z at *
      go_wp2_with (first | (at_builtin; refine wpList_append_own _ rfl _ _ 23 rfl w.heap.size 5 i _ 1 1 Tryd.underlying23 hi hz0 hz1 hz2 rfl (by decide) u3 (zs.take k).length (bval (zs.take k)) rfl (HO.out.1.alloc _) ⟨wr.heap.size, 0, none⟩ 1 1 (bval [_]) rfl rfl (cell_one _ _ _) (oneCells _) (by have := HL.out; unfold maxLen; omega) (by have := HL.out; omega) (by have := hb.size; rw [World.size_alloc]; omega) ?_))
      intro v' w3 hown' hgrow hnil
      have hlo := HO.out.1.lt
      have HO3 := hide (OwnB.app hown' (by simp) HO.out.2 (by intro y hy; simp at hy; subst hy; omega))
      have hb3 : Below w.heap.size w w3 := (hb.alloc hb.size _).grown hgrow (by have := hb.size; rw [World.size_alloc]; omega) (fun k hk => (hlo k hk).1)
      clear hown' hnil hgrow hb hlo
      go_wp2_with fail
      exact ⟨⟨k + 1, by omega, by go_num, hide (by rw [HT.out]; exact HO3.out), hb3⟩, by simp [intOf]; omega⟩
    · have hk' : k = n := by omega
      subst hk'
      have HT : Hid (zs.take k = zs) := hide (List.take_of_length_le (by rw [HN.out]; exact Nat.le_refl _))
      go_wp2_with fail
      go_ret
      exact ⟨u3, rfl, by rw [← HT.out]; exact HO.out, hb⟩

set_option maxHeartbeats 1000000 in
theorem l01Join_walk (a c : Option Addr) (m n cap1 cap2 : Nat) (xs zs : List Int) (w : World) (hx : xs.length = m) (hn : zs.length = n) (hax : Arr w a xs) (ha : Arr w c zs) (hm : m ≤ 1048576) (hm2 : n ≤ 1048576) :
    Calls Tryd.prog 82 #[.slice a m cap1, .slice c n cap2] w fun e w' => ∃ v : Value, e = .returned v ∧ OwnB w' w.heap.size v (xs ++ zs) ∧ Below w.heap.size w w' := by
  obtain ⟨i, hi, hz0, hz1, hz2⟩ := info_parts Tryd.infoB
  have HX := hide hx
  have HN := hide hn
  have HAX := hide hax
  have HA := hide ha
  clear hn ha hx hax
  go_enter Tryd.func82, Tryd.ntmps82
  go_wp2_with fail
  refine (l01Copy_walk a m cap1 xs w HX.out HAX.out (by omega)).mono ?_
  rintro e w1 ⟨v1, rfl, hO1, hb1⟩
  have HO1 := hide hO1
  clear hO1
  go_wp2_with fail
  go_loopw [5, 6] (fun o t w2 => ∃ k : Nat, k ≤ n ∧ t = .int .i64 k ∧ Hid (OwnB w2 w.heap.size o (xs ++ zs.take k)) ∧ Below w.heap.size w w2) (fun _ t _ => n - (intOf t).toNat)
  case atStart => exact ⟨0, Nat.zero_le _, rfl, hide (by rw [List.take_zero, List.append_nil]; exact HO1.out), hb1⟩
  case round =>
    obtain ⟨k, hk, rfl, HO, hb⟩ := hrel
    clear hb1 HO1
    by_cases hlt : k < n
    · have hkz : k < zs.length := by rw [HN.out]; exact hlt
      obtain ⟨b, off, rfl, hbs, hc⟩ := HA.out.2 k hkz
      have hc2 : wr.cell? ⟨b, off + k, none⟩ = some (.int .u8 (zs.getD k 0)) := by rw [hb.cell (p := ⟨b, off + k, none⟩) hbs]; exact hc
      have hzb := getD_bd HA.out.1 k
      have HT : Hid (xs ++ zs.take (k + 1) = (xs ++ zs.take k) ++ [zs.getD k 0]) := hide (by rw [List.take_succ_eq_append_getElem hkz, List.getD_eq_getElem?_getD, List.getElem?_eq_getElem hkz, List.append_assoc]; rfl)
      have hl : (xs ++ zs.take k).length = m + k := by rw [List.length_append, List.length_take, HX.out]; omega
      have HL := hide hl
      clear hc hl
      generalize zs.getD k 0 = z at *
      go_wp2_with (first | (at_builtin; refine wpList_append_own _ rfl _ _ 23 rfl w.heap.size 5 i _ 1 1 Tryd.underlying23 hi hz0 hz1 hz2 rfl (by decide) u5 (xs ++ zs.take k).length (bval (xs ++ zs.take k)) rfl (HO.out.1.alloc _) ⟨wr.heap.size, 0, none⟩ 1 1 (bval [_]) rfl rfl (cell_one _ _ _) (oneCells _) (by have := HL.out; unfold maxLen; omega) (by have := HL.out; omega) (by have := hb.size; rw [World.size_alloc]; omega) ?_))
      intro v' w3 hown' hgrow hnil
      have hlo := HO.out.1.lt
      have HO3 := hide (OwnB.app hown' (by simp) HO.out.2 (by intro y hy; simp at hy; subst hy; omega))
      have hb3 : Below w.heap.size w w3 := (hb.alloc hb.size _).grown hgrow (by have := hb.size; rw [World.size_alloc]; omega) (fun k hk => (hlo k hk).1)
      clear hown' hnil hgrow hb hlo
      go_wp2_with fail
      exact ⟨⟨k + 1, by omega, by go_num, hide (by rw [HT.out]; exact HO3.out), hb3⟩, by simp [intOf]; omega⟩
    · have hk' : k = n := by omega
      subst hk'
      have HT : Hid (zs.take k = zs) := hide (List.take_of_length_le (by rw [HN.out]; exact Nat.le_refl _))
      go_wp2_with fail
      go_ret
      exact ⟨u5, rfl, by have h := HO.out; rw [HT.out] at h; exact h, hb⟩

theorem pow256' {k : Nat} (h : k ≤ 6) : ((256 : Int) ^ k) ≤ 281474976710656 := by
  match k, h with
  | 0, _ => decide
  | 1, _ => decide
  | 2, _ => decide
  | 3, _ => decide
  | 4, _ => decide
  | 5, _ => decide
  | 6, _ => decide
set_option maxHeartbeats 1000000 in
theorem l03Num_walk (a : Option Addr) (n cap : Nat) (zs : List Int) (w : World) (hn : zs.length = n) (ha : Arr w a zs) (hm : n ≤ 6) :
    Calls Tryd.prog 38 #[.slice a n cap] w fun e w' => e = .returned (.int .i64 (tnum zs)) ∧ w' = w := by
  have HN := hide hn
  have HA := hide ha
  clear hn ha
  go_enter Tryd.func38, Tryd.ntmps38
  go_wp2_with fail
  go_loop [3, 4] (fun r t => ∃ k : Nat, k ≤ n ∧ t = .int .i64 k ∧ r = .int .i64 (tnum (zs.take k))) (fun _ t => n - (intOf t).toNat)
  case atStart => exact ⟨0, Nat.zero_le _, rfl, rfl⟩
  case round =>
    obtain ⟨k, hk, rfl, rfl⟩ := hrel
    have hb := tnum_bd zs HA.out.1 k (by rw [HN.out]; exact hk)
    have hp := pow256' (k := k) (by omega)
    have hb0 := hb.1
    have hb1 : tnum (zs.take k) < 281474976710656 := by omega
    clear hb hp
    by_cases hlt : k < n
    · obtain ⟨b1, o1, rfl, hbs, hc1⟩ := HA.out.2 k (by rw [HN.out]; exact hlt)
      have HT := hide (tnum_take zs k (by rw [HN.out]; exact hlt))
      have hz := getD_bd HA.out.1 k
      generalize zs.getD k 0 = z at *
      generalize tnum (zs.take k) = x at *
      go_wp2_with fail
      exact ⟨⟨k + 1, by omega, by go_num, by rw [HT.out]⟩, by simp [intOf]; omega⟩
    · have hk' : k = n := by omega
      subst hk'
      have HT : Hid (zs.take k = zs) := hide (List.take_of_length_le (by rw [HN.out]; exact Nat.le_refl _))
      rw [HT.out]
      go_wp2_with fail
      go_ret
      exact ⟨rfl, rfl⟩

/-- A number in so many bytes, the high one first. -/
def putL (v : Int) (k : Nat) : List Int := (List.range k).map (byteOf v k)
def putP (v : Int) (k j : Nat) : List Int := (List.range j).map (byteOf v k)
theorem putP_succ (v : Int) (k j : Nat) : putP v k (j + 1) = putP v k j ++ [byteOf v k j] := by unfold putP; rw [List.range_succ, List.map_append]; rfl
theorem putP_len (v : Int) (k j : Nat) : (putP v k j).length = j := by unfold putP; simp
theorem putL_len (v : Int) (k : Nat) : (putL v k).length = k := by unfold putL; simp
theorem putL_bd (v : Int) (k : Nat) : ∀ z ∈ putL v k, 0 ≤ z ∧ z ≤ 255 := by
  intro z hz
  obtain ⟨i, _, rfl⟩ := List.mem_map.1 hz
  exact byteOf_bd v k i
set_option maxHeartbeats 1000000 in
theorem l03Put_walk (v : Int) (width : Nat) (w : World) (hv : 0 ≤ v) (hw : width ≤ 8) :
    Calls Tryd.prog 109 #[.int .i64 v, .int .i64 (width : Int)] w fun e w' => ∃ u : Value, e = .returned u ∧ OwnB w' w.heap.size u (putL v width) ∧ Below w.heap.size w w' := by
  obtain ⟨i, hi, hz0, hz1, hz2⟩ := info_parts Tryd.infoB
  have hst : OwnB (w.alloc (.cells #[] 5)) w.heap.size (.slice (some ⟨w.heap.size, 0, none⟩) 0 0) [] :=
    ⟨World.ownsRow_lit (base := w.heap.size) (e := 5) (size := 1) w #[] 0 (Nat.le_refl _) (by decide) rfl, by simp⟩
  have HST := hide hst
  have hb0 := (Below.refl w.heap.size w).alloc (Nat.le_refl _) (.cells #[] 5)
  clear hst
  go_enter Tryd.func109, Tryd.ntmps109
  go_wp2_with fail
  generalize w.alloc (.cells #[] 5) = W at *
  go_loopw [5, 6] (fun o t w2 => ∃ j : Nat, j ≤ width ∧ t = .int .i64 ((width : Int) - 1 - (j : Int)) ∧ Hid (OwnB w2 w.heap.size o (putP v width j)) ∧ Below w.heap.size w w2) (fun _ t _ => (intOf t + 1).toNat)
  case atStart => exact ⟨0, Nat.zero_le _, by go_num, HST, hb0⟩
  case round =>
    obtain ⟨j, hj, rfl, HO, hb⟩ := hrel
    clear hb0
    by_cases hlt : j < width
    · have HT := hide (putP_succ v width j)
      have HL := hide (putP_len v width j)
      have hbd := byteOf_bd v width j
      have HE : Hid (v / 2 ^ (8 * (width - 1 - j)) % 256 = byteOf v width j) := hide rfl
      go_wp2_with (first | (at_builtin; refine wpList_append_own _ rfl _ _ 23 rfl w.heap.size 5 i _ 1 1 Tryd.underlying23 hi hz0 hz1 hz2 rfl (by decide) u5 (putP v width j).length (bval (putP v width j)) rfl (HO.out.1.alloc _) ⟨wr.heap.size, 0, none⟩ 1 1 (bval [_]) rfl rfl (cell_one _ _ _) (oneCells _) (by have := HL.out; unfold maxLen; omega) (by have := HL.out; omega) (by have := hb.size; rw [World.size_alloc]; omega) ?_))
      intro v' w3 hown' hgrow hnil
      have hlo := HO.out.1.lt
      have HO3 := hide (OwnB.app hown' rfl HO.out.2 (by intro y hy; simp at hy; subst hy; exact hbd))
      have hb3 : Below w.heap.size w w3 := (hb.alloc hb.size _).grown hgrow (by have := hb.size; rw [World.size_alloc]; omega) (fun k hk => (hlo k hk).1)
      clear hown' hnil hgrow hb hlo
      go_wp2_with fail
      exact ⟨⟨j + 1, by omega, by go_num, hide (by rw [HT.out]; exact HO3.out), hb3⟩, by simp [intOf]; omega⟩
    · have hj' : j = width := by omega
      subst hj'
      go_wp2_with fail
      go_ret
      exact ⟨u5, rfl, HO.out, hb⟩

/-- Bytes as a text. -/
def strB (zs : List Int) : ByteArray := bs (zs.map (fun z => UInt8.ofNat z.toNat))
theorem byte_back {z : Int} (h0 : 0 ≤ z) (h1 : z ≤ 255) : ((UInt8.ofNat z.toNat).toNat : Int) = z := by rw [UInt8.toNat_ofNat']; omega
theorem conv_str (a : Option Addr) (n cap : Nat) (zs : List Int) (w : World) (hn : zs.length = n) (h : Arr w a zs) : (convert 23 9 (.slice a n cap)).run Tryd.prog w = .ok (.string (strB zs)) w := by
  cases a with
  | none =>
    have h0 : zs = [] := by
      cases zs with
      | nil => rfl
      | cons z zs => obtain ⟨b, off, e, _⟩ := h.2 0 (by simp); cases e
    subst h0
    exact run_convert_bytes_nil (P := Tryd.prog) w 23 5 Tryd.underlying23 Tryd.underlying5 n cap 9 Tryd.underlying9
  | some p =>
    have hl : (zs.map (fun z => UInt8.ofNat z.toNat)).length = n := by rw [List.length_map, hn]
    have hh := run_convert_bytes_back (P := Tryd.prog) w 23 9 5 p cap (zs.map (fun z => UInt8.ofNat z.toNat)) Tryd.underlying23 Tryd.underlying5 Tryd.underlying9 (fun j hj => by
      rw [List.length_map] at hj
      obtain ⟨b, off, e, _, hc⟩ := h.2 j hj
      cases e
      rw [Addr.add_lit, hc, List.getElem_map, List.getD_eq_getElem?_getD, List.getElem?_eq_getElem hj]
      have hb := h.1 zs[j] (List.getElem_mem hj)
      rw [byte_back hb.1 hb.2]; rfl)
    rw [hl] at hh
    exact hh
theorem strB_inj {xs ys : List Int} (hx : ∀ z ∈ xs, 0 ≤ z ∧ z ≤ 255) (hy : ∀ z ∈ ys, 0 ≤ z ∧ z ≤ 255) (h : strB xs = strB ys) : xs = ys := by
  have key : ∀ zs : List Int, (∀ z ∈ zs, 0 ≤ z ∧ z ≤ 255) → (zs.map (fun z => UInt8.ofNat z.toNat)).map (fun b => (b.toNat : Int)) = zs := by
    intro zs hz
    rw [List.map_map]
    conv => rhs; rw [← List.map_id zs]
    apply List.map_congr_left
    intro z hzm
    exact byte_back (hz z hzm).1 (hz z hzm).2
  have h2 : (xs.map (fun z => UInt8.ofNat z.toNat)) = (ys.map (fun z => UInt8.ofNat z.toNat)) := by
    unfold strB at h
    rw [← bs_toList (xs.map _), ← bs_toList (ys.map _), h]
  rw [← key xs hx, ← key ys hy, h2]
/-- A sum's four bytes, the low one first. -/
def tailL (c : Int) : List Int := [c % 256, c / 256 % 256, c / 65536 % 256, c / 16777216 % 256]
theorem tailL_bd (c : Int) : ∀ z ∈ tailL c, 0 ≤ z ∧ z ≤ 255 := by
  intro z hz
  unfold tailL at hz
  simp only [List.mem_cons, List.not_mem_nil, or_false] at hz
  rcases hz with rfl | rfl | rfl | rfl <;> omega
def sumOf (zs : List Int) : Int := 4294967295 - (crc zs : Int)
theorem sumOf_bd (zs : List Int) (h : ∀ z ∈ zs, 0 ≤ z ∧ z ≤ 255) : 0 ≤ sumOf zs ∧ sumOf zs ≤ 4294967295 := by
  have h := crc_lt zs h zs.length
  rw [List.take_length] at h
  unfold sumOf
  omega
theorem In_yes (n a b : Int) (w : World) (h : a ≤ n ∧ n ≤ b) :
    Calls Tryd.prog 68 #[.int .i64 n, .int .i64 a, .int .i64 b] w fun e w' => e = .returned (.bool true) ∧ w' = w := by
  obtain ⟨h1, h2⟩ := h
  go_enter Tryd.func68, Tryd.ntmps68
  go_wp2
  go_ret
  exact ⟨rfl, rfl⟩
theorem In_no (n a b : Int) (w : World) (h : ¬ (a ≤ n ∧ n ≤ b)) :
    Calls Tryd.prog 68 #[.int .i64 n, .int .i64 a, .int .i64 b] w fun e w' => e = .returned (.bool false) ∧ w' = w := by
  by_cases h1 : a ≤ n
  · have h2 : ¬ n ≤ b := fun h2 => h ⟨h1, h2⟩
    clear h
    go_enter Tryd.func68, Tryd.ntmps68
    go_wp2
    go_ret
    exact ⟨rfl, rfl⟩
  · clear h
    go_enter Tryd.func68, Tryd.ntmps68
    go_wp2
    go_ret
    exact ⟨rfl, rfl⟩

def macOKB (m : Int) : Bool := decide (0 ≤ m ∧ m ≤ 281474976710655)
theorem macOKB_iff {m : Int} : macOKB m = true ↔ 0 ≤ m ∧ m ≤ 281474976710655 := by unfold macOKB; simp


/-- It is an address. -/
def adrB (a : Int) : Bool := decide (0 ≤ a ∧ a ≤ 4294967295)
theorem adrB_iff {a : Int} : adrB a = true ↔ 0 ≤ a ∧ a ≤ 4294967295 := by unfold adrB; simp

theorem specAddrOK_walk (a : Int) (w : World) :
    Calls Tryd.prog 36 #[.int .i64 a] w fun e w' => e = .returned (.bool (adrB a)) ∧ w' = w := by
  by_cases h : 0 ≤ a ∧ a ≤ 4294967295
  · have e := hide (adrB_iff.2 h)
    go_enter Tryd.func36, Tryd.ntmps36
    go_wp2_with (go_at_call 68; refine (In_yes _ _ _ _ h).mono ?_; rintro e w' ⟨rfl, rfl⟩)
    go_ret
    exact ⟨ret_bool e.out.symm, rfl⟩
  · have e : Hid (adrB a = false) := hide (by unfold adrB; simpa using h)
    go_enter Tryd.func36, Tryd.ntmps36
    go_wp2_with (go_at_call 68; refine (In_no _ _ _ _ h).mono ?_; rintro e w' ⟨rfl, rfl⟩)
    go_ret
    exact ⟨ret_bool e.out.symm, rfl⟩

theorem four_cells {w : World} {g t : Nat} {x y z u : Value} (h : w.heap[g]? = some (.cells #[x, y, z, u] t)) : w.cell? ⟨g, 0, none⟩ = some x ∧ w.cell? ⟨g, 1, none⟩ = some y ∧ w.cell? ⟨g, 2, none⟩ = some z ∧ w.cell? ⟨g, 3, none⟩ = some u ∧ ∀ o, w.frozen? ⟨g, o, none⟩ = false :=
  ⟨cell_of_row w g 0 _ _ _ h, cell_of_row w g 1 _ _ _ h, cell_of_row w g 2 _ _ _ h, cell_of_row w g 3 _ _ _ h, fun o => frozen_of_row w g o _ _ h⟩
theorem three_allocs (w : World) (o1 o2 o3 : Obj) : Below w.heap.size w (((w.alloc o1).alloc o2).alloc o3) ∧ (((w.alloc o1).alloc o2).alloc o3).heap.size = w.heap.size + 3 ∧ (((w.alloc o1).alloc o2).alloc o3).heap[w.heap.size]? = some o1 ∧ (((w.alloc o1).alloc o2).alloc o3).heap[w.heap.size + 1]? = some o2 ∧ (((w.alloc o1).alloc o2).alloc o3).heap[w.heap.size + 1 + 1]? = some o3 := by
  have s1 := World.size_alloc w o1
  have s2 := World.size_alloc (w.alloc o1) o2
  have s3 := World.size_alloc ((w.alloc o1).alloc o2) o3
  refine ⟨(((Below.refl _ _).alloc (Nat.le_refl _) _).alloc (by omega) _).alloc (by omega) _, by omega, ?_, ?_, ?_⟩
  · rw [Below.heap_alloc _ o3 _ (by omega), Below.heap_alloc _ o2 _ (by omega)]; exact heap_alloc_new w o1
  · rw [Below.heap_alloc _ o3 _ (by omega), ← s1]; exact heap_alloc_new (w.alloc o1) o2
  · rw [show w.heap.size + 1 + 1 = ((w.alloc o1).alloc o2).heap.size by omega]; exact heap_alloc_new _ o3
theorem frame_box (w : World) (x y z u : Value) (t : Nat) : Below w.heap.size w (w.alloc (.cells #[x, y, z, u] t)) ∧ w.heap.size < (w.alloc (.cells #[x, y, z, u] t)).heap.size ∧ (w.alloc (.cells #[x, y, z, u] t)).heap[w.heap.size]? = some (.cells #[x, y, z, u] t) :=
  ⟨(Below.refl _ _).alloc (Nat.le_refl _) _, by rw [World.size_alloc]; omega, heap_alloc_new _ _⟩
theorem szByteS_walk (a : Option Addr) (n cap : Nat) (left : Int) (w : World) (hm : n ≤ 9223372036854775807) (h0 : 0 ≤ left) (h1 : left ≤ 1048576) :
    Calls Tryd.prog 25 #[.slice a n cap, .int .i64 left] w fun e w' => e = .returned (.int .i64 (if left < (n : Int) then -1 else left - (n : Int))) ∧ w' = w := by
  by_cases h : left < (n : Int)
  · rw [if_pos h]
    go_enter Tryd.func25, Tryd.ntmps25
    go_wp2
    go_ret
    exact ⟨rfl, rfl⟩
  · rw [if_neg h]
    go_enter Tryd.func25, Tryd.ntmps25
    go_wp2
    go_ret
    exact ⟨rfl, rfl⟩
/-- What a frame's numbers must be. -/
def frOK (d s t : Int) : Bool := macOKB d && macOKB s && (decide (0 ≤ t) && decide (t ≤ 65535))
def frC (d s t : Int) (n : Nat) : Int := if frOK d s t then (if 1500 < n then 7 else 0) else 1
def headL (d s t : Int) : List Int := putL d 6 ++ putL s 6 ++ putL t 2
def bodyL (d s t : Int) (ps : List Int) : List Int := headL d s t ++ ps
def frL (d s t : Int) (ps : List Int) : List Int := if frC d s t ps.length = 0 then bodyL d s t ps ++ tailL (sumOf (bodyL d s t ps)) else []
theorem own_slice {w : World} {B : Nat} {v : Value} {zs : List Int} (h : OwnB w B v zs) : ∃ a cap, v = .slice a zs.length cap ∧ Arr w a zs := by
  obtain ⟨a, cap, hv, ha, _⟩ := h.arr
  exact ⟨a, cap, hv, ha⟩
theorem l01Join_own (u v : Value) (B C : Nat) (xs ys : List Int) (w : World) (hx : OwnB w B u xs) (hy : OwnB w C v ys) (hm : xs.length ≤ 1048576) (hm2 : ys.length ≤ 1048576) :
    Calls Tryd.prog 82 #[u, v] w fun e w' => ∃ r : Value, e = .returned r ∧ OwnB w' w.heap.size r (xs ++ ys) ∧ Below w.heap.size w w' := by
  obtain ⟨a, c1, rfl, ha⟩ := own_slice hx
  obtain ⟨b, c2, rfl, hb⟩ := own_slice hy
  exact l01Join_walk a b _ _ c1 c2 xs ys w rfl rfl ha hb hm hm2
/-- The frame's box is as it was laid. -/
abbrev BoxF (w0 w : World) (d s t : Int) (v : Value) : Prop := Below w0.heap.size w0 w ∧ w0.heap.size < w.heap.size ∧ w.cell? ⟨w0.heap.size, 0, none⟩ = some (.int .i64 d) ∧ w.cell? ⟨w0.heap.size, 1, none⟩ = some (.int .i64 s) ∧ w.cell? ⟨w0.heap.size, 2, none⟩ = some (.int .i64 t) ∧ w.cell? ⟨w0.heap.size, 3, none⟩ = some v
theorem BoxF.start (w0 : World) (d s t : Int) (v : Value) (ty : Nat) : BoxF w0 (w0.alloc (.cells #[.int .i64 d, .int .i64 s, .int .i64 t, v] ty)) d s t v := by
  obtain ⟨h1, h2, h3⟩ := frame_box w0 (.int .i64 d) (.int .i64 s) (.int .i64 t) v ty
  obtain ⟨c0, c1, c2, c3, _⟩ := four_cells h3
  exact ⟨h1, h2, c0, c1, c2, c3⟩
theorem BoxF.next {w0 w w' : World} {d s t : Int} {v : Value} (h : BoxF w0 w d s t v) (hb : Below w.heap.size w w') : BoxF w0 w' d s t v := by
  obtain ⟨h1, h2, c0, c1, c2, c3⟩ := h
  exact ⟨h1.trans (hb.mono h1.size), Nat.lt_of_lt_of_le h2 hb.size, by rw [hb.cell (p := ⟨w0.heap.size, 0, none⟩) h2]; exact c0, by rw [hb.cell (p := ⟨w0.heap.size, 1, none⟩) h2]; exact c1, by rw [hb.cell (p := ⟨w0.heap.size, 2, none⟩) h2]; exact c2, by rw [hb.cell (p := ⟨w0.heap.size, 3, none⟩) h2]; exact c3⟩
theorem BoxF.drew {w0 w : World} {d s t : Int} {v : Value} (h : BoxF w0 w d s t v) : BoxF w0 w.drew d s t v := h.next ((Below.refl _ _).drew)
theorem BoxF.size {w0 w : World} {d s t : Int} {v : Value} (h : BoxF w0 w d s t v) : w0.heap.size ≤ w.heap.size := h.1.size
theorem l01Join_from (u v : Value) (B C M : Nat) (xs ys : List Int) (w : World) (hM : M ≤ w.heap.size) (hx : OwnB w B u xs) (hy : OwnB w C v ys) (hm : xs.length ≤ 1048576) (hm2 : ys.length ≤ 1048576) :
    Calls Tryd.prog 82 #[u, v] w fun e w' => ∃ r : Value, e = .returned r ∧ OwnB w' M r (xs ++ ys) ∧ Below w.heap.size w w' := by
  refine (l01Join_own u v B C xs ys w hx hy hm hm2).mono ?_
  rintro e w' ⟨r, rfl, hO, hb⟩
  exact ⟨r, rfl, hO.mono hM, hb⟩
theorem l01Join_arr (u : Value) (a : Option Addr) (n cap B M : Nat) (xs ys : List Int) (w : World) (hM : M ≤ w.heap.size) (hx : OwnB w B u xs) (hn : ys.length = n) (hy : Arr w a ys) (hm : xs.length ≤ 1048576) (hm2 : n ≤ 1048576) :
    Calls Tryd.prog 82 #[u, .slice a n cap] w fun e w' => ∃ r : Value, e = .returned r ∧ OwnB w' M r (xs ++ ys) ∧ Below w.heap.size w w' := by
  obtain ⟨b, c1, rfl, hb⟩ := own_slice hx
  refine (l01Join_walk b a _ n c1 cap xs ys w rfl hn hb hy hm hm2).mono ?_
  rintro e w' ⟨r, rfl, hO, hb⟩
  exact ⟨r, rfl, hO.mono hM, hb⟩
theorem put6_walk (v : Int) (w : World) (hv : 0 ≤ v) :
    Calls Tryd.prog 109 #[.int .i64 v, .int .i64 6] w fun e w' => ∃ u : Value, e = .returned u ∧ OwnB w' w.heap.size u (putL v 6) ∧ Below w.heap.size w w' := l03Put_walk v 6 w hv (by omega)
theorem put2_walk (v : Int) (w : World) (hv : 0 ≤ v) :
    Calls Tryd.prog 109 #[.int .i64 v, .int .i64 2] w fun e w' => ∃ u : Value, e = .returned u ∧ OwnB w' w.heap.size u (putL v 2) ∧ Below w.heap.size w w' := l03Put_walk v 2 w hv (by omega)
theorem frOK_parts {d s t : Int} (h : frOK d s t = true) : macOKB d = true ∧ macOKB s = true ∧ 0 ≤ d ∧ 0 ≤ s ∧ 0 ≤ t ∧ t ≤ 65535 := by
  unfold frOK at h
  simp only [Bool.and_eq_true, decide_eq_true_eq] at h
  exact ⟨h.1.1, h.1.2, (macOKB_iff.1 h.1.1).1, (macOKB_iff.1 h.1.2).1, h.2.1, h.2.2⟩
theorem Arr.take {w : World} {a : Option Addr} {zs : List Int} (h : Arr w a zs) (k : Nat) : Arr w a (zs.take k) := by
  refine ⟨fun z hz => h.1 z (List.mem_of_mem_take hz), fun j hj => ?_⟩
  rw [List.length_take] at hj
  obtain ⟨b, off, e, hb, hc⟩ := h.2 j (by omega)
  refine ⟨b, off, e, hb, ?_⟩
  rw [hc, List.getD_eq_getElem?_getD, List.getD_eq_getElem?_getD, List.getElem?_take_of_lt (by omega)]
theorem Arr.drop {w : World} {b off : Nat} {zs : List Int} (h : Arr w (some ⟨b, off, none⟩) zs) (k : Nat) : Arr w (some ⟨b, off + k, none⟩) (zs.drop k) := by
  refine ⟨fun z hz => h.1 z (List.mem_of_mem_drop hz), fun j hj => ?_⟩
  rw [List.length_drop] at hj
  obtain ⟨b', off', e, hb, hc⟩ := h.2 (k + j) (by omega)
  cases e
  refine ⟨b, off + k, rfl, hb, ?_⟩
  rw [Nat.add_assoc, hc, List.getD_eq_getElem?_getD, List.getD_eq_getElem?_getD, List.getElem?_drop]
/-- A part of a slice. -/
theorem sl_part (b off n cap l h : Nat) (hl : l ≤ h) (hh : h ≤ cap) (hc : l < cap) (w : World) : (Instr.slice 23 (.slice (some ⟨b, off, none⟩) n cap) (some (.int .i64 (l : Int))) (some (.int .i64 (h : Int))) none).run Tryd.prog w = .ok (.slice (some ⟨b, off + l, none⟩) (h - l) (cap - l)) w := by
  have z := Tryd.sizeOf5
  have hs : (sizeOf (Tryd.prog.elem 23)).run Tryd.prog w = .ok 1 w := z w
  have he := run_slice_lh (P := Tryd.prog) (w := w) 23 (some ⟨b, off, none⟩) n cap Tryd.underlying23 .i64 .i64 (l : Int) (h : Int) (by omega) (by omega) (by omega)
  rw [he, hs]
  simp [sliced, Result.andThen, Addr.add_lit]
  omega
theorem sl_to (b off n cap h : Nat) (hh : h ≤ cap) (hc : 0 < cap) (w : World) : (Instr.slice 23 (.slice (some ⟨b, off, none⟩) n cap) none (some (.int .i64 (h : Int))) none).run Tryd.prog w = .ok (.slice (some ⟨b, off, none⟩) h cap) w := by
  have hs : (sizeOf (Tryd.prog.elem 23)).run Tryd.prog w = .ok 1 w := Tryd.sizeOf5 w
  have he := run_slice_h (P := Tryd.prog) (w := w) 23 (some ⟨b, off, none⟩) n cap Tryd.underlying23 .i64 (h : Int) (by omega) (by omega)
  rw [he, hs]
  simp [sliced, Result.andThen, Addr.add_lit]
theorem sl_from (b off n cap l : Nat) (hl : l ≤ n) (hc : l < cap) (w : World) : (Instr.slice 23 (.slice (some ⟨b, off, none⟩) n cap) (some (.int .i64 (l : Int))) none none).run Tryd.prog w = .ok (.slice (some ⟨b, off + l, none⟩) (n - l) (cap - l)) w := by
  have hs : (sizeOf (Tryd.prog.elem 23)).run Tryd.prog w = .ok 1 w := Tryd.sizeOf5 w
  have he := run_slice_l (P := Tryd.prog) (w := w) 23 (some ⟨b, off, none⟩) n cap Tryd.underlying23 .i64 (l : Int) (by omega) (by omega)
  rw [he, hs]
  simp [sliced, Result.andThen, Addr.add_lit]
  omega

/-- What DecodeFrame tells of bytes. -/
def sumB (zs : List Int) : Bool := decide (tailL (sumOf (zs.take (zs.length - 4))) = zs.drop (zs.length - 4))
def dfC (zs : List Int) : Int := if zs.length < 18 then 2 else if 1518 < zs.length then 7 else if sumB zs then 0 else 3
def dfD (zs : List Int) : Int := if dfC zs = 0 then tnum (zs.take 6) else 0
def dfS (zs : List Int) : Int := if dfC zs = 0 then tnum ((zs.drop 6).take 6) else 0
def dfT (zs : List Int) : Int := if dfC zs = 0 then tnum ((zs.drop 12).take 2) else 0
def dfP (zs : List Int) : List Int := if dfC zs = 0 then (zs.drop 14).take (zs.length - 18) else []
theorem df_no {zs : List Int} (h : ¬ dfC zs = 0) : dfD zs = 0 ∧ dfS zs = 0 ∧ dfT zs = 0 ∧ dfP zs = [] := by
  unfold dfD dfS dfT dfP; rw [if_neg h, if_neg h, if_neg h, if_neg h]; exact ⟨rfl, rfl, rfl, rfl⟩
theorem df_yes {zs : List Int} (h : dfC zs = 0) : dfD zs = tnum (zs.take 6) ∧ dfS zs = tnum ((zs.drop 6).take 6) ∧ dfT zs = tnum ((zs.drop 12).take 2) ∧ dfP zs = (zs.drop 14).take (zs.length - 18) := by
  unfold dfD dfS dfT dfP; rw [if_pos h, if_pos h, if_pos h, if_pos h]; exact ⟨rfl, rfl, rfl, rfl⟩
theorem own_arr {w : World} {B n cap : Nat} {a : Option Addr} {zs : List Int} (h : OwnB w B (.slice a n cap) zs) : Arr w a zs ∧ zs.length = n := by
  obtain ⟨a', c, e, ha⟩ := own_slice h
  simp only [Value.slice.injEq] at e
  obtain ⟨rfl, rfl, _⟩ := e
  exact ⟨ha, rfl⟩
theorem below_next {w W w' : World} (h : Below w.heap.size w W) (hb : Below W.heap.size W w') : Below w.heap.size w w' := h.trans (hb.mono h.size)
theorem below_four {w w' : World} {x0 x1 x2 x3 : Value} (h : Below w.heap.size w w') : Below w.heap.size w ((((w'.setCell ⟨w.heap.size, 0, none⟩ x0).setCell ⟨w.heap.size, 1, none⟩ x1).setCell ⟨w.heap.size, 2, none⟩ x2).setCell ⟨w.heap.size, 3, none⟩ x3) :=
  (((h.setCell (p := ⟨w.heap.size, 0, none⟩) (Nat.le_refl _) _).setCell (p := ⟨w.heap.size, 1, none⟩) (Nat.le_refl _) _).setCell (p := ⟨w.heap.size, 2, none⟩) (Nat.le_refl _) _).setCell (p := ⟨w.heap.size, 3, none⟩) (Nat.le_refl _) _
theorem OwnB.four {w w' : World} {B : Nat} {v x0 x1 x2 x3 : Value} {zs : List Int} (h : OwnB w' B v zs) (hB : w.heap.size < B) : OwnB ((((w'.setCell ⟨w.heap.size, 0, none⟩ x0).setCell ⟨w.heap.size, 1, none⟩ x1).setCell ⟨w.heap.size, 2, none⟩ x2).setCell ⟨w.heap.size, 3, none⟩ x3) w.heap.size v zs :=
  ((((h.setBelow (a := ⟨w.heap.size, 0, none⟩) hB _).setBelow (a := ⟨w.heap.size, 1, none⟩) hB _).setBelow (a := ⟨w.heap.size, 2, none⟩) hB _).setBelow (a := ⟨w.heap.size, 3, none⟩) hB _).mono (by omega)
theorem frL_len (d s t : Int) (zs : List Int) : (frL d s t zs).length ≤ 1518 := by
  unfold frL
  split
  · rename_i h
    unfold frC at h
    have hl : zs.length ≤ 1500 := by
      by_cases h2 : 1500 < zs.length
      · rw [if_pos h2] at h; split at h <;> cases h
      · omega
    unfold bodyL headL tailL
    simp [putL_len]
    omega
  · simp
theorem BoxF.keep {w0 w w' : World} {C : Nat} {d s t : Int} {v : Value} (h : BoxF w0 w d s t v) (hb : Below C w w') (hC : w0.heap.size < C) : BoxF w0 w' d s t v := by
  obtain ⟨h1, h2, c0, c1, c2, c3⟩ := h
  exact ⟨h1.trans (hb.mono (by omega)), Nat.lt_of_lt_of_le h2 hb.size, by rw [hb.cell (p := ⟨w0.heap.size, 0, none⟩) hC]; exact c0, by rw [hb.cell (p := ⟨w0.heap.size, 1, none⟩) hC]; exact c1, by rw [hb.cell (p := ⟨w0.heap.size, 2, none⟩) hC]; exact c2, by rw [hb.cell (p := ⟨w0.heap.size, 3, none⟩) hC]; exact c3⟩
theorem below_drew {C : Nat} {w w' : World} (h : Below C w.drew w') : Below C w w' := ⟨h.os, h.tape, h.output, h.size, h.block⟩
theorem two_next {w0 w1 w w' : World} {d s t d' s' t' : Int} {v v' : Value} (h : BoxF w0 w d s t v ∧ BoxF w1 w d' s' t' v') (hb : Below w.heap.size w w') : BoxF w0 w' d s t v ∧ BoxF w1 w' d' s' t' v' := ⟨h.1.next hb, h.2.next hb⟩
theorem own_lt {w : World} {B : Nat} {v : Value} {zs : List Int} (h : OwnB w B v zs) : ∀ k, v.ownBlock = some k → k < w.heap.size := fun k hk => (h.1.lt k hk).2
theorem dfP_len (zs : List Int) : (dfP zs).length ≤ 1500 := by
  unfold dfP
  split
  · rename_i h
    have hl : zs.length ≤ 1518 := by
      unfold dfC at h
      by_cases h1 : zs.length < 18
      · omega
      · by_cases h2 : 1518 < zs.length
        · rw [if_neg h1, if_pos h2] at h; cases h
        · omega
    rw [List.length_take]
    omega
  · simp
/-- A frame lies in block b. -/
abbrev CellF (w : World) (b : Nat) (d s t : Int) (v : Value) : Prop := b < w.heap.size ∧ w.cell? ⟨b, 0, none⟩ = some (.int .i64 d) ∧ w.cell? ⟨b, 1, none⟩ = some (.int .i64 s) ∧ w.cell? ⟨b, 2, none⟩ = some (.int .i64 t) ∧ w.cell? ⟨b, 3, none⟩ = some v
theorem CellF.start (w : World) (d s t : Int) (v : Value) (ty : Nat) : CellF (w.alloc (.cells #[.int .i64 d, .int .i64 s, .int .i64 t, v] ty)) w.heap.size d s t v := by
  obtain ⟨_, h2, c0, c1, c2, c3⟩ := BoxF.start w d s t v ty
  exact ⟨h2, c0, c1, c2, c3⟩
theorem CellF.below {w w' : World} {b C : Nat} {d s t : Int} {v : Value} (h : CellF w b d s t v) (hb : Below C w w') (hC : b < C) : CellF w' b d s t v := by
  obtain ⟨h2, c0, c1, c2, c3⟩ := h
  exact ⟨Nat.lt_of_lt_of_le h2 hb.size, by rw [hb.cell (p := ⟨b, 0, none⟩) hC]; exact c0, by rw [hb.cell (p := ⟨b, 1, none⟩) hC]; exact c1, by rw [hb.cell (p := ⟨b, 2, none⟩) hC]; exact c2, by rw [hb.cell (p := ⟨b, 3, none⟩) hC]; exact c3⟩
theorem CellF.next {w w' : World} {b : Nat} {d s t : Int} {v : Value} (h : CellF w b d s t v) (hb : Below w.heap.size w w') : CellF w' b d s t v := h.below hb h.1
theorem CellF.kept {w w' : World} {b : Nat} {d s t : Int} {v : Value} {row : Option Nat} (h : CellF w b d s t v) (hg : w.grownBy w' row) (hne : some b ≠ row) : CellF w' b d s t v := by
  obtain ⟨h2, c0, c1, c2, c3⟩ := h
  have hk := hg.block b h2 hne
  exact ⟨Nat.lt_of_lt_of_le h2 hg.size, by rw [World.cell?_of_block (a := ⟨b, 0, none⟩) hk]; exact c0, by rw [World.cell?_of_block (a := ⟨b, 1, none⟩) hk]; exact c1, by rw [World.cell?_of_block (a := ⟨b, 2, none⟩) hk]; exact c2, by rw [World.cell?_of_block (a := ⟨b, 3, none⟩) hk]; exact c3⟩
end Go.Proofs.YtcnfnimgpiaamaaDoor
