/-
Contracts of functions of this seat.
-/
import Derived.Test.YtmgjagajcmeikaeRows
import Derived.WalkKit
import Derived.ProofKit
import Derived.OpenShut
import Derived.Deep.QuietTactic
import Derived.Below
import Derived.OwnWalk
import Derived.BigQuiet
import Derived.RegionTactic
import Derived.ChangeAlike
namespace Go.Proofs.Ytmgjagajcmeikae
open Go.ChangeShapes Go.WideShapes Go.ChangeAt Go.RowKit
set_option linter.unusedVariables false
theorem i64_bd {a : Int} (h : (Lit.int .i64 a).wf = true) : -9223372036854775808 ≤ a ∧ a ≤ 9223372036854775807 := by
  simpa [Lit.wf, IntKind.min, IntKind.max, IntKind.signed, IntKind.bits] using h
theorem ret_int {k : IntKind} {a b : Int} (h : a = b) : Ending.returned (.int k a) = .returned (.int k b) := by rw [h]
theorem ret_bool {a b : Bool} (h : a = b) : Ending.returned (.bool a) = .returned (.bool b) := by rw [h]
theorem hide {P : Prop} (h : P) : Hid P := h
theorem below_drewN {B : Nat} {a w : World} (h : Below B a w) (n : Nat) : Below B a (w.drewN n) := ⟨h.os, h.tape, h.output, h.size, h.block⟩

/-- 'x & (2^i - 1)' is x modulo 2^i, also of a number below 0. -/
theorem and_mask (k : IntKind) (i : Nat) (hi : i ≤ k.bits) (hk : ∀ n : Int, 0 ≤ n → n < 2 ^ i → k.wrap n = n) (x : Int) :
    bits .and k x ((2 ^ i - 1 : Nat) : Int) = x % 2 ^ i := by
  have hpos : 0 < 2 ^ i := Nat.two_pow_pos i
  have hle : 2 ^ i ≤ 2 ^ k.bits := Nat.pow_le_pow_right (by decide) hi
  have hm : (2 ^ i - 1) % 2 ^ k.bits = 2 ^ i - 1 := Nat.mod_eq_of_lt (by omega)
  have hd : (2 ^ i : Int) ∣ 2 ^ k.bits := by
    obtain ⟨c, hc⟩ := Nat.pow_dvd_pow 2 hi
    exact ⟨(c : Int), by exact_mod_cast hc⟩
  have hx : (((x % (2 ^ k.bits : Nat)).toNat % 2 ^ i : Nat) : Int) = x % 2 ^ i := by
    have h0 : 0 ≤ x % ((2 ^ k.bits : Nat) : Int) := Int.emod_nonneg _ (by have := Nat.two_pow_pos k.bits; omega)
    rw [Int.natCast_emod, Int.toNat_of_nonneg h0]
    push_cast
    exact Int.emod_emod_of_dvd x hd
  have hn : (x % (2 ^ k.bits : Nat)).toNat &&& (2 ^ i - 1) = (x % (2 ^ k.bits : Nat)).toNat % 2 ^ i := Nat.and_two_pow_sub_one_eq_mod _ _
  simp only [bits, BitVec.ofInt_natCast, BitVec.toNat_and, BitVec.toNat_ofNat, BitVec.toNat_ofInt, hm, hn, hx]
  exact hk _ (Int.emod_nonneg _ (by have : (0 : Int) < 2 ^ i := by exact_mod_cast hpos
                                    omega)) (Int.emod_lt_of_pos _ (by exact_mod_cast hpos))
theorem wrap_i64' (n : Int) (h0 : 0 ≤ n) (h1 : n ≤ 9223372036854775807) : IntKind.i64.wrap n = n := by rw [IntKind.wrap_i64]; omega
theorem wrap_u64 (n : Int) : IntKind.u64.wrap n = n % 18446744073709551616 := by simp [IntKind.wrap, IntKind.bits, IntKind.signed]
theorem wrap_u16 (n : Int) : IntKind.u16.wrap n = n % 65536 := by simp [IntKind.wrap, IntKind.bits, IntKind.signed]
theorem and_65535_i64 (x : Int) : bits .and .i64 x 65535 = x % 65536 :=
  and_mask .i64 16 (by decide) (fun n h0 h1 => wrap_i64' n h0 (by omega)) x
theorem and_255_i64 (x : Int) : bits .and .i64 x 255 = x % 256 :=
  and_mask .i64 8 (by decide) (fun n h0 h1 => wrap_i64' n h0 (by omega)) x
theorem and_1_i64 (x : Int) : bits .and .i64 x 1 = x % 2 :=
  and_mask .i64 1 (by decide) (fun n h0 h1 => wrap_i64' n h0 (by omega)) x
theorem and_65535_u64 (x : Int) : bits .and .u64 x 65535 = x % 65536 :=
  and_mask .u64 16 (by decide) (fun n h0 h1 => by rw [wrap_u64]; omega) x
theorem and_1_u32 (x : Int) : bits .and .u32 x 1 = x % 2 :=
  and_mask .u32 1 (by decide) (fun n h0 h1 => by rw [IntKind.wrap_u32]; omega) x
theorem and_15_u8 (x : Int) : bits .and .u8 x 15 = x % 16 :=
  and_mask .u8 4 (by decide) (fun n h0 h1 => by rw [IntKind.wrap_u8]; omega) x
/-- '^x' of an unsigned number: what is lacking to the greatest. -/
theorem not_of (k : IntKind) (hu : k.signed = false) (x : Int) (h0 : 0 ≤ x) (h1 : x < 2 ^ k.bits) : bits .xor k k.max x = k.max - x := by
  obtain ⟨a, rfl⟩ := Int.eq_ofNat_of_zero_le h0
  have ha : a < 2 ^ k.bits := by exact_mod_cast h1
  have hpos : 0 < 2 ^ k.bits := Nat.two_pow_pos _
  have hmax : k.max = ((2 ^ k.bits - 1 : Nat) : Int) := by
    unfold IntKind.max
    rw [if_neg (by simp [hu]), Int.natCast_sub hpos]; simp
  have hall : BitVec.ofInt k.bits k.max = BitVec.allOnes k.bits := by
    rw [hmax, BitVec.ofInt_natCast]; apply BitVec.eq_of_toNat_eq; simp
  have hw : ∀ n : Nat, n < 2 ^ k.bits → k.wrap n = n := by
    intro n hn
    unfold IntKind.wrap
    simp only [hu, Bool.false_and]
    rw [if_neg (by simp)]
    exact_mod_cast Nat.mod_eq_of_lt hn
  unfold bits
  simp only [hall, BitVec.allOnes_xor, BitVec.toNat_not, BitVec.ofInt_natCast, BitVec.toNat_ofNat, Nat.mod_eq_of_lt ha]
  rw [hw _ (by omega), hmax]
  omega
theorem not_u16 (n : Int) : bits .xor .u16 IntKind.u16.max (n % 65536) = 65535 - n % 65536 :=
  not_of .u16 rfl (n % 65536) (by omega) (by show _ < (65536 : Int); omega)
theorem not_u32 (n : Int) (h0 : 0 ≤ n) (h1 : n < 4294967296) : bits .xor .u32 IntKind.u32.max n = 4294967295 - n :=
  not_of .u32 rfl n h0 (by show _ < (4294967296 : Int); omega)
theorem signed_u16 : IntKind.u16.signed = false := rfl
theorem signed_u32 : IntKind.u32.signed = false := rfl

/-- The bytes of a slice whose array begins at a: zs, from the first on. -/
def Arr (w : World) (a : Option Addr) (zs : List Int) : Prop :=
  (∀ z ∈ zs, 0 ≤ z ∧ z ≤ 255) ∧ ∀ j, j < zs.length → ∃ b off, a = some ⟨b, off, none⟩ ∧ b < w.heap.size ∧ w.cell? ⟨b, off + j, none⟩ = some (.int .u8 (zs.getD j 0))
theorem Arr.below {B : Nat} {w w' : World} {a : Option Addr} {zs : List Int} (h : Arr w a zs) (hb : Below B w w') (hB : w.heap.size ≤ B) : Arr w' a zs := by
  refine ⟨h.1, fun j hj => ?_⟩
  obtain ⟨b, off, ha, hlt, hc⟩ := h.2 j hj
  exact ⟨b, off, ha, by have := hb.size; omega, by rw [hb.cell (p := ⟨b, off + j, none⟩) (by show b < B; omega)]; exact hc⟩
theorem getD_bd {zs : List Int} (h : ∀ z ∈ zs, 0 ≤ z ∧ z ≤ 255) (j : Nat) : 0 ≤ zs.getD j 0 ∧ zs.getD j 0 ≤ 255 := by
  by_cases hj : j < zs.length
  · rw [List.getD_eq_getElem?_getD, List.getElem?_eq_getElem hj]; exact h _ (List.getElem_mem hj)
  · rw [List.getD_eq_getElem?_getD, List.getElem?_eq_none (by omega)]; simp
theorem grown_trans {a b c : World} {row : Option Nat} (h : a.grownBy b row) (k : b.grownBy c row) : a.grownBy c row :=
  ⟨k.os.trans h.os, k.tape.trans h.tape, k.output.trans h.output, Nat.le_trans h.size k.size, fun i hi hr => (k.block i (Nat.lt_of_lt_of_le hi h.size) hr).trans (h.block i hi hr)⟩

/-- A source of numbers in block g: its code's bytes zs, a place in them, a state. -/
def Src (w : World) (g t : Nat) (zs : List Int) : Prop :=
  ∃ (a : Option Addr) (cap : Nat) (pos st : Int), w.heap[g]? = some (.cells #[.slice a zs.length cap, .int .i64 pos, .int .u64 st] t) ∧ Arr w a zs ∧ 0 ≤ pos ∧ pos ≤ (zs.length : Int) ∧ 0 ≤ st ∧ st ≤ 18446744073709551615
theorem src_cells {w : World} {g t : Nat} {a b c : Value} (h : w.heap[g]? = some (.cells #[a, b, c] t)) :
    w.cell? ⟨g, 0, none⟩ = some a ∧ w.cell? ⟨g, 1, none⟩ = some b ∧ w.cell? ⟨g, 2, none⟩ = some c ∧ ∀ o, w.frozen? ⟨g, o, none⟩ = false :=
  ⟨cell_of_row w g 0 _ _ _ h, cell_of_row w g 1 _ _ _ h, cell_of_row w g 2 _ _ _ h, fun o => frozen_of_row w g o _ _ h⟩
theorem wrap_u64_bd (n : Int) : 0 ≤ IntKind.u64.wrap n ∧ IntKind.u64.wrap n ≤ 18446744073709551615 := by rw [wrap_u64]; omega
theorem xor_u64_bd (x y : Int) : 0 ≤ bits .xor .u64 x y ∧ bits .xor .u64 x y ≤ 18446744073709551615 := by
  have h := wf_bits .xor .u64 x y
  simpa [Lit.wf, IntKind.min, IntKind.max, IntKind.signed, IntKind.bits] using h
/-- A store into the block of a source changes nothing else. -/
theorem src_set {w : World} {g t j : Nat} {cur : Array Value} (u : Value) (h : w.heap[g]? = some (.cells cur t)) :
    (w.setCell ⟨g, j, none⟩ u).heap[g]? = some (.cells (cur.setIfInBounds j u) t) ∧ w.grownBy (w.setCell ⟨g, j, none⟩ u) (some g) :=
  ⟨heap_setCell_same w g j cur t u h, ⟨rfl, rfl, rfl, by simp, fun k _ hk => heap_setCell_other w ⟨g, j, none⟩ k u (fun e => hk (by simp [e]))⟩⟩
theorem grown_drewN {a w : World} {row : Option Nat} (h : a.grownBy w row) (n : Nat) : a.grownBy (w.drewN n) row := ⟨h.os, h.tape, h.output, h.size, h.block⟩
/-- Bytes that lie outside block g are the same when that block is written. -/
theorem Arr.grown {w w' : World} {g t : Nat} {a : Option Addr} {x y z : Value} {zs : List Int} (h : Arr w a zs) (hg : w.grownBy w' (some g)) (hb : w.heap[g]? = some (.cells #[x, y, z] t))
    (hx : ∀ n, x ≠ .int .u8 n) (hy : ∀ n, y ≠ .int .u8 n) (hz : ∀ n, z ≠ .int .u8 n) : Arr w' a zs := by
  refine ⟨h.1, fun j hj => ?_⟩
  obtain ⟨b, off, ha, hlt, hc⟩ := h.2 j hj
  have hne : b ≠ g := by
    rintro rfl
    rw [cell_of_row w b (off + j) _ _ _ hb] at hc
    match hoj : off + j with
    | 0 => rw [hoj] at hc; simp at hc; exact hx _ hc
    | 1 => rw [hoj] at hc; simp at hc; exact hy _ hc
    | 2 => rw [hoj] at hc; simp at hc; exact hz _ hc
    | k + 3 => rw [hoj] at hc; simp at hc
  refine ⟨b, off, ha, Nat.lt_of_lt_of_le hlt hg.size, ?_⟩
  exact hg.cell hc (by simp [hne])
theorem rem_bd {x n : Int} (hx : 0 ≤ x) (hn : 0 < n) (hn1 : n ≤ 9223372036854775807) : 0 ≤ wrap64 (x.tmod n) ∧ wrap64 (x.tmod n) < n := by
  rw [Int.tmod_eq_emod_of_nonneg hx]
  have h1 := Int.emod_nonneg x (show n ≠ 0 by omega)
  have h2 := Int.emod_lt_of_pos x hn
  unfold wrap64
  omega
theorem rem_bd' {x n : Int} (hn : 0 < n) (hn1 : n ≤ 9223372036854775807) : 0 ≤ wrap64 (x % n) ∧ wrap64 (x % n) < n := by
  have h1 := Int.emod_nonneg x (show n ≠ 0 by omega)
  have h2 := Int.emod_lt_of_pos x hn
  unfold wrap64
  omega

theorem Src.below {B : Nat} {w w' : World} {g t : Nat} {zs : List Int} (h : Src w g t zs) (hb : Below B w w') (hB : w.heap.size ≤ B) : Src w' g t zs := by
  obtain ⟨a, cap, pos, st, hg, harr, hp0, hp1, hs0, hs1⟩ := h
  have hlt : g < w.heap.size := by
    by_cases hlt : g < w.heap.size
    · exact hlt
    · rw [Array.getElem?_eq_none (by omega)] at hg; cases hg
  exact ⟨a, cap, pos, st, by rw [hb.block g (by omega)]; exact hg, harr.below hb hB, hp0, hp1, hs0, hs1⟩

/-- Where a source is being made: its place in the answer, and the source itself. -/
def Made (w w2 : World) (t : Nat) (a : Option Addr) (n cap : Nat) : Prop :=
  Below w.heap.size w w2 ∧ w.heap.size + 1 < w2.heap.size ∧ w2.heap[w.heap.size]? = some (.cells #[.slice none 0 0, .int .i64 0, .int .u64 0] t) ∧
    ∃ st : Int, 0 ≤ st ∧ st ≤ 18446744073709551615 ∧ w2.heap[w.heap.size + 1]? = some (.cells #[.slice a n cap, .int .i64 0, .int .u64 st] t)
theorem made_start (w : World) (t : Nat) (a : Option Addr) (n cap : Nat) (st : Int) (h0 : 0 ≤ st) (h1 : st ≤ 18446744073709551615) :
    Made w ((w.alloc (.cells #[.slice none 0 0, .int .i64 0, .int .u64 0] t)).alloc (.cells #[.slice a n cap, .int .i64 0, .int .u64 st] t)) t a n cap := by
  refine ⟨((Below.refl _ _).alloc (Nat.le_refl _) _).alloc (by rw [World.size_alloc]; omega) _, by rw [World.size_alloc, World.size_alloc]; omega, ?_, st, h0, h1, ?_⟩
  · rw [Below.heap_alloc _ _ w.heap.size (by rw [World.size_alloc]; omega)]; exact heap_alloc_new w _
  · have h := heap_alloc_new (w.alloc (.cells #[.slice none 0 0, .int .i64 0, .int .u64 0] t)) (.cells #[.slice a n cap, .int .i64 0, .int .u64 st] t)
    rw [World.size_alloc] at h; exact h
theorem made_set {w w2 : World} {t : Nat} {a : Option Addr} {n cap : Nat} (h : Made w w2 t a n cap) (s : Int) (h0 : 0 ≤ s) (h1 : s ≤ 18446744073709551615) :
    Made w (w2.setCell ⟨w.heap.size + 1, 2, none⟩ (.int .u64 s)).drew t a n cap := by
  obtain ⟨hb, hz, hr, st, _, _, hg⟩ := h
  refine ⟨(hb.setCell (p := ⟨w.heap.size + 1, 2, none⟩) (by show w.heap.size ≤ w.heap.size + 1; omega) _).drew, ?_, ?_, s, h0, h1, ?_⟩
  · show _ < (w2.setCell _ _).heap.size
    simpa using hz
  · show (w2.setCell _ _).heap[w.heap.size]? = _
    rw [heap_setCell_other w2 ⟨w.heap.size + 1, 2, none⟩ w.heap.size _ (by simp)]; exact hr
  · exact heap_setCell_same w2 (w.heap.size + 1) 2 _ t _ hg

set_option maxHeartbeats 1000000 in
theorem lwNext_more (g : Nat) (n : Int) (zs : List Int) (w : World) (a : Option Addr) (cap k : Nat) (st : Int) (hb : w.heap[g]? = some (.cells #[.slice a zs.length cap, .int .i64 (k : Int), .int .u64 st] 33)) (harr : Arr w a zs)
    (hk : k < zs.length) (hs0 : 0 ≤ st) (hs1 : st ≤ 18446744073709551615) (hn : 0 < n) (hn1 : n ≤ 9223372036854775807) (hl : zs.length ≤ 2097152) :
    Calls Try.prog 13 #[.pointer (some ⟨g, 0, none⟩), .int .i64 n] w fun e w' => ∃ r : Int, e = .returned (.int .i64 r) ∧ 0 ≤ r ∧ r < n ∧ w.grownBy w' (some g) ∧ Src w' g 33 zs := by
  obtain ⟨c0, c1, c2, hf⟩ := src_cells hb
  have HB := hide hb
  have HA := hide harr
  clear hb harr
  generalize hlen : zs.length = len at *
  have HL := hide hlen
  clear hlen
  go_enter Try.func13, Try.ntmps13
  go_wp2_with fail
  have hs2 := wrap_u64_bd (IntKind.u64.wrap (st * 6364136223846793005) + 1442695040888963407)
  generalize IntKind.u64.wrap (IntKind.u64.wrap (st * 6364136223846793005) + 1442695040888963407) = s1 at *
  obtain ⟨hb1, hg1⟩ := src_set (j := 2) (.int .u64 s1) HB.out
  have hb1' : (w.setCell ⟨g, 2, none⟩ (.int .u64 s1)).heap[g]? = some (.cells #[.slice a len cap, .int .i64 (k : Int), .int .u64 s1] 33) := hb1
  have HA1 := hide (HA.out.grown hg1 HB.out (by simp) (by simp) (by simp))
  clear hb1 c0 c1 c2 hf
  generalize w.setCell ⟨g, 2, none⟩ (.int .u64 s1) = W1 at *
  obtain ⟨c0, c1, c2, hf⟩ := src_cells hb1'
  have HB1 := hide hb1'
  clear hb1'
  go_quiet (fail)
  revert nq
  intro nq1
  go_wp2_with fail
  obtain ⟨b, off, rfl, hbs, hc⟩ := HA1.out.2 k (by rw [HL.out]; exact hk)
  go_quiet (fail)
  go_wp2_with fail
  go_ret
  obtain ⟨hb2, hg2⟩ := src_set (w := W1.drewN (nq1 + nq)) (j := 1) (.int .i64 ((k : Int) + 1)) HB1.out
  have hr := rem_bd (xor_u64_bd (s1 / 8589934592) (IntKind.u64.wrap (zs[k]?.getD 0))).1 hn hn1
  have hG := grown_trans (grown_drewN hg1 (nq1 + nq)) hg2
  refine ⟨_, rfl, hr.1, hr.2, hG, some ⟨b, off, none⟩, cap, (k : Int) + 1, s1, ?_, ?_, by omega, ?_, hs2.1, hs2.2⟩
  · rw [HL.out]; exact hb2
  · exact (show Arr (W1.drewN (nq1 + nq)) _ zs from HA1.out).grown hg2 HB1.out (by simp) (by simp) (by simp)
  · rw [HL.out]; omega
set_option maxHeartbeats 1000000 in
theorem lwNext_end (g : Nat) (n : Int) (zs : List Int) (w : World) (a : Option Addr) (cap k : Nat) (st : Int) (hb : w.heap[g]? = some (.cells #[.slice a zs.length cap, .int .i64 (k : Int), .int .u64 st] 33)) (harr : Arr w a zs)
    (hk : k = zs.length) (hs0 : 0 ≤ st) (hs1 : st ≤ 18446744073709551615) (hn : 0 < n) (hn1 : n ≤ 9223372036854775807) (hl : zs.length ≤ 2097152) :
    Calls Try.prog 13 #[.pointer (some ⟨g, 0, none⟩), .int .i64 n] w fun e w' => ∃ r : Int, e = .returned (.int .i64 r) ∧ 0 ≤ r ∧ r < n ∧ w.grownBy w' (some g) ∧ Src w' g 33 zs := by
  obtain ⟨c0, c1, c2, hf⟩ := src_cells hb
  have HB := hide hb
  have HA := hide harr
  clear hb harr
  have hkl : ¬ (k : Int) < (zs.length : Int) := by omega
  generalize hlen : zs.length = len at *
  have HL := hide hlen
  clear hlen
  have HK := hide hk
  clear hk
  go_enter Try.func13, Try.ntmps13
  go_wp2_with fail
  have hs2 := wrap_u64_bd (IntKind.u64.wrap (st * 6364136223846793005) + 1442695040888963407)
  generalize IntKind.u64.wrap (IntKind.u64.wrap (st * 6364136223846793005) + 1442695040888963407) = s1 at *
  obtain ⟨hb1, hg1⟩ := src_set (j := 2) (.int .u64 s1) HB.out
  have hb1' : (w.setCell ⟨g, 2, none⟩ (.int .u64 s1)).heap[g]? = some (.cells #[.slice a len cap, .int .i64 (k : Int), .int .u64 s1] 33) := hb1
  have HA1 := hide (HA.out.grown hg1 HB.out (by simp) (by simp) (by simp))
  clear hb1 c0 c1 c2 hf
  generalize w.setCell ⟨g, 2, none⟩ (.int .u64 s1) = W1 at *
  obtain ⟨c0, c1, c2, hf⟩ := src_cells hb1'
  have HB1 := hide hb1'
  clear hb1'
  go_quiet (fail)
  go_wp2_with fail
  go_ret
  have hr := rem_bd' (x := s1 / 8589934592) hn hn1
  refine ⟨_, rfl, hr.1, hr.2, grown_drewN hg1 nq, a, cap, (k : Int), s1, ?_, HA1.out, by omega, ?_, hs2.1, hs2.2⟩
  · rw [HL.out]; exact HB1.out
  · have h1 := HK.out; have h2 := HL.out; omega
theorem lwNext_walk (g : Nat) (n : Int) (zs : List Int) (w : World) (h : Src w g 33 zs) (hn : 0 < n) (hn1 : n ≤ 9223372036854775807) (hl : zs.length ≤ 2097152) :
    Calls Try.prog 13 #[.pointer (some ⟨g, 0, none⟩), .int .i64 n] w fun e w' => ∃ r : Int, e = .returned (.int .i64 r) ∧ 0 ≤ r ∧ r < n ∧ w.grownBy w' (some g) ∧ Src w' g 33 zs := by
  obtain ⟨a, cap, pos, st, hb, harr, hp0, hp1, hs0, hs1⟩ := h
  obtain ⟨k, rfl⟩ := Int.eq_ofNat_of_zero_le hp0
  by_cases hk : k < zs.length
  · exact lwNext_more g n zs w a cap k st hb harr hk hs0 hs1 hn hn1 hl
  · exact lwNext_end g n zs w a cap k st hb harr (by omega) hs0 hs1 hn hn1 hl

set_option maxHeartbeats 1000000 in
theorem l01Next_more (g : Nat) (n : Int) (zs : List Int) (w : World) (a : Option Addr) (cap k : Nat) (st : Int) (hb : w.heap[g]? = some (.cells #[.slice a zs.length cap, .int .i64 (k : Int), .int .u64 st] 48)) (harr : Arr w a zs)
    (hk : k < zs.length) (hs0 : 0 ≤ st) (hs1 : st ≤ 18446744073709551615) (hn : 0 < n) (hn1 : n ≤ 9223372036854775807) (hl : zs.length ≤ 2097152) :
    Calls Try.prog 28 #[.pointer (some ⟨g, 0, none⟩), .int .i64 n] w fun e w' => ∃ r : Int, e = .returned (.int .i64 r) ∧ 0 ≤ r ∧ r < n ∧ w.grownBy w' (some g) ∧ Src w' g 48 zs := by
  obtain ⟨c0, c1, c2, hf⟩ := src_cells hb
  have HB := hide hb
  have HA := hide harr
  clear hb harr
  generalize hlen : zs.length = len at *
  have HL := hide hlen
  clear hlen
  go_enter Try.func28, Try.ntmps28
  go_wp2_with fail
  have hs2 := wrap_u64_bd (IntKind.u64.wrap (st * 6364136223846793005) + 1442695040888963407)
  generalize IntKind.u64.wrap (IntKind.u64.wrap (st * 6364136223846793005) + 1442695040888963407) = s1 at *
  obtain ⟨hb1, hg1⟩ := src_set (j := 2) (.int .u64 s1) HB.out
  have hb1' : (w.setCell ⟨g, 2, none⟩ (.int .u64 s1)).heap[g]? = some (.cells #[.slice a len cap, .int .i64 (k : Int), .int .u64 s1] 48) := hb1
  have HA1 := hide (HA.out.grown hg1 HB.out (by simp) (by simp) (by simp))
  clear hb1 c0 c1 c2 hf
  generalize w.setCell ⟨g, 2, none⟩ (.int .u64 s1) = W1 at *
  obtain ⟨c0, c1, c2, hf⟩ := src_cells hb1'
  have HB1 := hide hb1'
  clear hb1'
  go_quiet (fail)
  revert nq
  intro nq1
  go_wp2_with fail
  obtain ⟨b, off, rfl, hbs, hc⟩ := HA1.out.2 k (by rw [HL.out]; exact hk)
  go_quiet (fail)
  go_wp2_with fail
  go_ret
  obtain ⟨hb2, hg2⟩ := src_set (w := W1.drewN (nq1 + nq)) (j := 1) (.int .i64 ((k : Int) + 1)) HB1.out
  have hr := rem_bd (xor_u64_bd (s1 / 8589934592) (IntKind.u64.wrap (zs[k]?.getD 0))).1 hn hn1
  have hG := grown_trans (grown_drewN hg1 (nq1 + nq)) hg2
  refine ⟨_, rfl, hr.1, hr.2, hG, some ⟨b, off, none⟩, cap, (k : Int) + 1, s1, ?_, ?_, by omega, ?_, hs2.1, hs2.2⟩
  · rw [HL.out]; exact hb2
  · exact (show Arr (W1.drewN (nq1 + nq)) _ zs from HA1.out).grown hg2 HB1.out (by simp) (by simp) (by simp)
  · rw [HL.out]; omega
set_option maxHeartbeats 1000000 in
theorem l01Next_end (g : Nat) (n : Int) (zs : List Int) (w : World) (a : Option Addr) (cap k : Nat) (st : Int) (hb : w.heap[g]? = some (.cells #[.slice a zs.length cap, .int .i64 (k : Int), .int .u64 st] 48)) (harr : Arr w a zs)
    (hk : k = zs.length) (hs0 : 0 ≤ st) (hs1 : st ≤ 18446744073709551615) (hn : 0 < n) (hn1 : n ≤ 9223372036854775807) (hl : zs.length ≤ 2097152) :
    Calls Try.prog 28 #[.pointer (some ⟨g, 0, none⟩), .int .i64 n] w fun e w' => ∃ r : Int, e = .returned (.int .i64 r) ∧ 0 ≤ r ∧ r < n ∧ w.grownBy w' (some g) ∧ Src w' g 48 zs := by
  obtain ⟨c0, c1, c2, hf⟩ := src_cells hb
  have HB := hide hb
  have HA := hide harr
  clear hb harr
  have hkl : ¬ (k : Int) < (zs.length : Int) := by omega
  generalize hlen : zs.length = len at *
  have HL := hide hlen
  clear hlen
  have HK := hide hk
  clear hk
  go_enter Try.func28, Try.ntmps28
  go_wp2_with fail
  have hs2 := wrap_u64_bd (IntKind.u64.wrap (st * 6364136223846793005) + 1442695040888963407)
  generalize IntKind.u64.wrap (IntKind.u64.wrap (st * 6364136223846793005) + 1442695040888963407) = s1 at *
  obtain ⟨hb1, hg1⟩ := src_set (j := 2) (.int .u64 s1) HB.out
  have hb1' : (w.setCell ⟨g, 2, none⟩ (.int .u64 s1)).heap[g]? = some (.cells #[.slice a len cap, .int .i64 (k : Int), .int .u64 s1] 48) := hb1
  have HA1 := hide (HA.out.grown hg1 HB.out (by simp) (by simp) (by simp))
  clear hb1 c0 c1 c2 hf
  generalize w.setCell ⟨g, 2, none⟩ (.int .u64 s1) = W1 at *
  obtain ⟨c0, c1, c2, hf⟩ := src_cells hb1'
  have HB1 := hide hb1'
  clear hb1'
  go_quiet (fail)
  go_wp2_with fail
  go_ret
  have hr := rem_bd' (x := s1 / 8589934592) hn hn1
  refine ⟨_, rfl, hr.1, hr.2, grown_drewN hg1 nq, a, cap, (k : Int), s1, ?_, HA1.out, by omega, ?_, hs2.1, hs2.2⟩
  · rw [HL.out]; exact HB1.out
  · have h1 := HK.out; have h2 := HL.out; omega
theorem l01Next_walk (g : Nat) (n : Int) (zs : List Int) (w : World) (h : Src w g 48 zs) (hn : 0 < n) (hn1 : n ≤ 9223372036854775807) (hl : zs.length ≤ 2097152) :
    Calls Try.prog 28 #[.pointer (some ⟨g, 0, none⟩), .int .i64 n] w fun e w' => ∃ r : Int, e = .returned (.int .i64 r) ∧ 0 ≤ r ∧ r < n ∧ w.grownBy w' (some g) ∧ Src w' g 48 zs := by
  obtain ⟨a, cap, pos, st, hb, harr, hp0, hp1, hs0, hs1⟩ := h
  obtain ⟨k, rfl⟩ := Int.eq_ofNat_of_zero_le hp0
  by_cases hk : k < zs.length
  · exact l01Next_more g n zs w a cap k st hb harr hk hs0 hs1 hn hn1 hl
  · exact l01Next_end g n zs w a cap k st hb harr (by omega) hs0 hs1 hn hn1 hl

set_option maxHeartbeats 1000000 in
theorem lwBegin_walk (a : Option Addr) (n cap : Nat) (salt : Int) (zs : List Int) (w : World) (hn : zs.length = n) (ha : Arr w a zs) (hs0 : 0 ≤ salt) (hs1 : salt ≤ 1000) (hm : n ≤ 2097152) :
    Calls Try.prog 11 #[.slice a n cap, .int .u64 salt] w fun e w' => ∃ st : Int, e = .returned (.agg #[.slice a n cap, .int .i64 0, .int .u64 st]) ∧ 0 ≤ st ∧ st ≤ 18446744073709551615 ∧ Below w.heap.size w w' := by
  have HN := hide hn
  have HA := hide ha
  clear hn ha
  go_enter Try.func11, Try.ntmps11
  go_wp2_with fail
  have hmade := hide (made_start w 33 a n cap (88172645463325252 + salt * 977) (by omega) (by omega))
  generalize (w.alloc (.cells #[.slice none 0 0, .int .i64 0, .int .u64 0] 33)).alloc (.cells #[.slice a n cap, .int .i64 0, .int .u64 (88172645463325252 + salt * 977)] 33) = W at *
  go_loopw [6] (fun t w2 => ∃ k : Nat, k ≤ n ∧ t = .int .i64 k ∧ Hid (Made w w2 33 a n cap)) (fun t _ => n - (intOf t).toNat)
  case atStart => exact ⟨0, Nat.zero_le _, rfl, hmade⟩
  case round =>
    obtain ⟨k, hk, rfl, HM⟩ := hrel
    obtain ⟨hb, hz, hr, st, hs0, hs1, hg⟩ := HM.out
    by_cases hlt : k < n
    · obtain ⟨b, off, rfl, hbs, hc0⟩ := HA.out.2 k (by rw [HN.out]; exact hlt)
      have hc : wr.cell? ⟨b, off + k, none⟩ = some (.int .u8 (zs.getD k 0)) := by rw [hb.cell (p := ⟨b, off + k, none⟩) hbs]; exact hc0
      clear hc0
      have hz := getD_bd HA.out.1 k
      generalize zs.getD k 0 = z at *
      obtain ⟨c0, c1, c2, hf⟩ := src_cells hg
      clear hr hg hmade c0 c1
      have hx := xor_u64_bd st z
      go_wp2
      go_region
      go_wp2
      have hw := wrap_u64_bd (bits .xor .u64 st z * 1099511628211)
      exact ⟨⟨k + 1, by omega, by go_num, hide (made_set HM.out _ hw.1 hw.2)⟩, by simp [intOf]; omega⟩
    · obtain ⟨c0, c1, c2, hf⟩ := src_cells hg
      obtain ⟨d0, d1, d2, hf2⟩ := src_cells hr
      clear hr hg hmade
      go_wp2
      exact bodyPost_ret (v := .agg #[.slice a n cap, .int .i64 0, .int .u64 st]) (by simp [results, Try.results11, go_sem, d0, d1, d2]) rfl ⟨st, rfl, hs0, hs1, ((hb.setCell (Nat.le_refl _) _).setCell (Nat.le_refl _) _).setCell (Nat.le_refl _) _⟩

set_option maxHeartbeats 1000000 in
theorem l01Begin_walk (a : Option Addr) (n cap : Nat) (zs : List Int) (w : World) (hn : zs.length = n) (ha : Arr w a zs) (hm : n ≤ 2097152) :
    Calls Try.prog 26 #[.slice a n cap] w fun e w' => ∃ st : Int, e = .returned (.agg #[.slice a n cap, .int .i64 0, .int .u64 st]) ∧ 0 ≤ st ∧ st ≤ 18446744073709551615 ∧ Below w.heap.size w w' := by
  have HN := hide hn
  have HA := hide ha
  clear hn ha
  go_enter Try.func26, Try.ntmps26
  go_wp2_with fail
  have hmade := hide (made_start w 48 a n cap 1469598103934665603 (by omega) (by omega))
  generalize (w.alloc (.cells #[.slice none 0 0, .int .i64 0, .int .u64 0] 48)).alloc (.cells #[.slice a n cap, .int .i64 0, .int .u64 1469598103934665603] 48) = W at *
  go_loopw [4] (fun t w2 => ∃ k : Nat, k ≤ n ∧ t = .int .i64 k ∧ Hid (Made w w2 48 a n cap)) (fun t _ => n - (intOf t).toNat)
  case atStart => exact ⟨0, Nat.zero_le _, rfl, hmade⟩
  case round =>
    obtain ⟨k, hk, rfl, HM⟩ := hrel
    obtain ⟨hb, hz, hr, st, hs0, hs1, hg⟩ := HM.out
    by_cases hlt : k < n
    · obtain ⟨b, off, rfl, hbs, hc0⟩ := HA.out.2 k (by rw [HN.out]; exact hlt)
      have hc : wr.cell? ⟨b, off + k, none⟩ = some (.int .u8 (zs.getD k 0)) := by rw [hb.cell (p := ⟨b, off + k, none⟩) hbs]; exact hc0
      clear hc0
      have hz := getD_bd HA.out.1 k
      generalize zs.getD k 0 = z at *
      obtain ⟨c0, c1, c2, hf⟩ := src_cells hg
      clear hr hg hmade c0 c1
      have hx := xor_u64_bd st z
      go_wp2
      go_region
      go_wp2
      have hw := wrap_u64_bd (bits .xor .u64 st z * 1099511628211)
      exact ⟨⟨k + 1, by omega, by go_num, hide (made_set HM.out _ hw.1 hw.2)⟩, by simp [intOf]; omega⟩
    · obtain ⟨c0, c1, c2, hf⟩ := src_cells hg
      obtain ⟨d0, d1, d2, hf2⟩ := src_cells hr
      clear hr hg hmade
      go_wp2
      exact bodyPost_ret (v := .agg #[.slice a n cap, .int .i64 0, .int .u64 st]) (by simp [results, Try.results26, go_sem, d0, d1, d2]) rfl ⟨st, rfl, hs0, hs1, ((hb.setCell (Nat.le_refl _) _).setCell (Nat.le_refl _) _).setCell (Nat.le_refl _) _⟩

set_option maxHeartbeats 1000000 in
theorem l01Seq_walk (g : Nat) (zs : List Int) (w : World) (h : Src w g 48 zs) (hl : zs.length ≤ 2097152) :
    Calls Try.prog 27 #[.pointer (some ⟨g, 0, none⟩)] w fun e w' => ∃ r : Int, e = .returned (.int .i64 r) ∧ 0 ≤ r ∧ r ≤ 4294967295 ∧ w.grownBy w' (some g) ∧ Src w' g 48 zs := by
  have HS := hide h
  clear h
  go_enter Try.func27, Try.ntmps27
  go_wp2_with fail
  refine (l01Next_walk _ _ zs _ HS.out (by omega) (by omega) hl).mono ?_
  rintro e w1 ⟨r, rfl, h0, h1, hg1, hs1⟩
  have HS1 := hide hs1
  clear hs1
  have H : ∀ r : Int, 0 ≤ r → r < 4 → r = 0 ∨ r = 1 ∨ r = 2 ∨ r = 3 := by intro r _ _; omega
  rcases H r h0 h1 with rfl | rfl | rfl | rfl
  all_goals
    clear H h0 h1
    go_wp2_with fail
    refine (l01Next_walk _ _ zs _ HS1.out (by omega) (by omega) hl).mono ?_
    rintro e w2 ⟨r2, rfl, k0, k1, hg2, hs2⟩
    have HS2 := hide hs2
    clear hs2
    go_wp2_with fail
    go_ret
    exact ⟨_, rfl, by omega, by omega, grown_trans hg1 hg2, HS2.out⟩

theorem src_new {w : World} {t : Nat} {a : Option Addr} {n cap : Nat} {st : Int} {zs : List Int} (hn : zs.length = n) (ha : Arr w a zs) (h0 : 0 ≤ st) (h1 : st ≤ 18446744073709551615) :
    Src (w.alloc (.cells #[.slice a n cap, .int .i64 0, .int .u64 st] t)) w.heap.size t zs := by
  refine ⟨a, cap, 0, st, by rw [hn]; exact heap_alloc_new w _, ha.below ((Below.refl w.heap.size w).alloc (Nat.le_refl _) _) (Nat.le_refl _), Int.le_refl _, by omega, h0, h1⟩
set_option maxHeartbeats 1000000 in
theorem drawSeqAdd_walk (a : Option Addr) (n cap : Nat) (zs : List Int) (w : World) (hn : zs.length = n) (ha : Arr w a zs) (hm : n ≤ 2097152) :
    Calls Try.prog 12 #[.slice a n cap] w fun e w' => ∃ x y : Int, e = .returned (.tuple #[.int .i64 x, .int .i64 y]) ∧ 0 ≤ x ∧ x ≤ 4294967295 ∧ -4294967296 ≤ y ∧ y ≤ 4294967296 ∧ Below w.heap.size w w' := by
  have HN := hide hn
  have HA := hide ha
  clear hn ha
  go_enter Try.func12, Try.ntmps12
  go_wp2_with fail
  refine (l01Begin_walk _ _ _ zs _ HN.out HA.out hm).mono ?_
  rintro e w1 ⟨st, rfl, hs0, hs1, hb1⟩
  have HS := hide (src_new (t := 48) (cap := cap) HN.out (HA.out.below hb1 (Nat.le_refl _)) hs0 hs1)
  go_wp2_with fail
  have hg0 := World.grownBy_alloc w1 (.cells #[.slice a n cap, .int .i64 0, .int .u64 st] 48) (some w1.heap.size)
  generalize w1.alloc (.cells #[.slice a n cap, .int .i64 0, .int .u64 st] 48) = W1 at *
  refine (l01Seq_walk _ zs _ HS.out (by rw [HN.out]; exact hm)).mono ?_
  rintro e w2 ⟨r, rfl, r0, r1, hg2, hs2⟩
  have HS2 := hide hs2
  clear hs2
  go_wp2_with fail
  refine (l01Next_walk _ _ zs _ HS2.out (by omega) (by omega) (by rw [HN.out]; exact hm)).mono ?_
  rintro e w3 ⟨r3, rfl, k0, k1, hg3, hs3⟩
  have HS3 := hide hs3
  clear hs3
  by_cases h3 : r3 = 0
  · subst h3
    go_wp2_with fail
    refine (l01Seq_walk _ zs _ HS3.out (by rw [HN.out]; exact hm)).mono ?_
    rintro e w4 ⟨r4, rfl, j0, j1, hg4, hs4⟩
    go_wp2_with fail
    go_ret2
    exact ⟨_, _, rfl, j0, j1, by omega, by omega, hb1.trans ((Below.refl _ _).grown (grown_trans (grown_trans (grown_trans hg0 hg2) hg3) hg4) hb1.size (fun k hk => by cases hk; exact hb1.size))⟩
  · have h3' : (r3 == 0) = false := by rw [beq_eq_false_iff_ne]; exact h3
    clear h3
    go_wp2_with fail
    refine (l01Seq_walk _ zs _ HS3.out (by rw [HN.out]; exact hm)).mono ?_
    rintro e w4 ⟨r4, rfl, j0, j1, hg4, hs4⟩
    go_wp2_with fail
    go_ret2
    exact ⟨_, _, rfl, j0, j1, by omega, by omega, hb1.trans ((Below.refl _ _).grown (grown_trans (grown_trans (grown_trans hg0 hg2) hg3) hg4) hb1.size (fun k hk => by cases hk; exact hb1.size))⟩
end Go.Proofs.Ytmgjagajcmeikae
