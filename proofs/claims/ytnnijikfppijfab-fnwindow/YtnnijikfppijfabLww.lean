/-
Contracts of functions of this seat.
-/
import Derived.Test.YtnnijikfppijfabRows
import Derived.WalkKit
import Derived.ProofKit
import Derived.OpenShut
import Derived.Test.YtnnijikfppijfabCgm
import Derived.OwnWalk
import Derived.Below
import Derived.BigQuiet
import Derived.RegionTactic
import Derived.ChangeAlike
namespace Go.Proofs.Ytnnijikfppijfab
open Go.ChangeShapes Go.WideShapes Go.ChangeAt Go.RowKit
set_option linter.unusedVariables false
set_option maxRecDepth 100000
/-- 'x & (2^i - 1)' is x modulo 2^i, also of a number below 0. -/
theorem and_mask (k : IntKind) (i : Nat) (hi : i ≤ k.bits) (hk : ∀ n : Int, 0 ≤ n → n < 2 ^ i → k.wrap n = n) (x : Int) :
    bits .and k x ((2 ^ i - 1 : Nat) : Int) = x % 2 ^ i := by
  have hpos : 0 < 2 ^ i := Nat.two_pow_pos i
  have hle : 2 ^ i ≤ 2 ^ k.bits := Nat.pow_le_pow_right (by decide) hi
  have hm : (2 ^ i - 1) % 2 ^ k.bits = 2 ^ i - 1 := Nat.mod_eq_of_lt (by omega)
  have hd : (2 ^ i : Int) ∣ 2 ^ k.bits := by
    obtain ⟨c, hc⟩ := Nat.pow_dvd_pow 2 hi
    exact ⟨(c : Int), by exact_mod_cast hc⟩
  have hx : (((x % (2 ^ k.bits : Nat)).toNat % 2 ^ i : Nat) : Int) = x % 2 ^ i := by
    have h0 : 0 ≤ x % ((2 ^ k.bits : Nat) : Int) := Int.emod_nonneg _ (by have := Nat.two_pow_pos k.bits; omega)
    rw [Int.natCast_emod, Int.toNat_of_nonneg h0]
    push_cast
    exact Int.emod_emod_of_dvd x hd
  have hn : (x % (2 ^ k.bits : Nat)).toNat &&& (2 ^ i - 1) = (x % (2 ^ k.bits : Nat)).toNat % 2 ^ i := Nat.and_two_pow_sub_one_eq_mod _ _
  simp only [bits, BitVec.ofInt_natCast, BitVec.toNat_and, BitVec.toNat_ofNat, BitVec.toNat_ofInt, hm, hn, hx]
  exact hk _ (Int.emod_nonneg _ (by have : (0 : Int) < 2 ^ i := by exact_mod_cast hpos
                                    omega)) (Int.emod_lt_of_pos _ (by exact_mod_cast hpos))
theorem wrap_i64' (n : Int) (h0 : 0 ≤ n) (h1 : n ≤ 9223372036854775807) : IntKind.i64.wrap n = n := by rw [IntKind.wrap_i64]; omega
theorem wrap_u64 (n : Int) : IntKind.u64.wrap n = n % 18446744073709551616 := by simp [IntKind.wrap, IntKind.bits, IntKind.signed]
theorem wrap_u16 (n : Int) : IntKind.u16.wrap n = n % 65536 := by simp [IntKind.wrap, IntKind.bits, IntKind.signed]
theorem and_65535_i64 (x : Int) : bits .and .i64 x 65535 = x % 65536 :=
  and_mask .i64 16 (by decide) (fun n h0 h1 => wrap_i64' n h0 (by omega)) x
theorem and_255_i64 (x : Int) : bits .and .i64 x 255 = x % 256 :=
  and_mask .i64 8 (by decide) (fun n h0 h1 => wrap_i64' n h0 (by omega)) x
theorem and_1_i64 (x : Int) : bits .and .i64 x 1 = x % 2 :=
  and_mask .i64 1 (by decide) (fun n h0 h1 => wrap_i64' n h0 (by omega)) x
theorem and_65535_u64 (x : Int) : bits .and .u64 x 65535 = x % 65536 :=
  and_mask .u64 16 (by decide) (fun n h0 h1 => by rw [wrap_u64]; omega) x
theorem and_1_u32 (x : Int) : bits .and .u32 x 1 = x % 2 :=
  and_mask .u32 1 (by decide) (fun n h0 h1 => by rw [IntKind.wrap_u32]; omega) x
theorem and_15_u8 (x : Int) : bits .and .u8 x 15 = x % 16 :=
  and_mask .u8 4 (by decide) (fun n h0 h1 => by rw [IntKind.wrap_u8]; omega) x
/-- '^x' of an unsigned number: what is lacking to the greatest. -/
theorem not_of (k : IntKind) (hu : k.signed = false) (x : Int) (h0 : 0 ≤ x) (h1 : x < 2 ^ k.bits) : bits .xor k k.max x = k.max - x := by
  obtain ⟨a, rfl⟩ := Int.eq_ofNat_of_zero_le h0
  have ha : a < 2 ^ k.bits := by exact_mod_cast h1
  have hpos : 0 < 2 ^ k.bits := Nat.two_pow_pos _
  have hmax : k.max = ((2 ^ k.bits - 1 : Nat) : Int) := by
    unfold IntKind.max
    rw [if_neg (by simp [hu]), Int.natCast_sub hpos]; simp
  have hall : BitVec.ofInt k.bits k.max = BitVec.allOnes k.bits := by
    rw [hmax, BitVec.ofInt_natCast]; apply BitVec.eq_of_toNat_eq; simp
  have hw : ∀ n : Nat, n < 2 ^ k.bits → k.wrap n = n := by
    intro n hn
    unfold IntKind.wrap
    simp only [hu, Bool.false_and]
    rw [if_neg (by simp)]
    exact_mod_cast Nat.mod_eq_of_lt hn
  unfold bits
  simp only [hall, BitVec.allOnes_xor, BitVec.toNat_not, BitVec.ofInt_natCast, BitVec.toNat_ofNat, Nat.mod_eq_of_lt ha]
  rw [hw _ (by omega), hmax]
  omega
theorem not_u16 (n : Int) : bits .xor .u16 IntKind.u16.max (n % 65536) = 65535 - n % 65536 :=
  not_of .u16 rfl (n % 65536) (by omega) (by show _ < (65536 : Int); omega)
theorem not_u32 (n : Int) (h0 : 0 ≤ n) (h1 : n < 4294967296) : bits .xor .u32 IntKind.u32.max n = 4294967295 - n :=
  not_of .u32 rfl n h0 (by show _ < (4294967296 : Int); omega)
theorem signed_u16 : IntKind.u16.signed = false := rfl
theorem signed_u32 : IntKind.u32.signed = false := rfl

/-- The bytes of a slice whose array begins at a: zs, from the first on. -/
def Arr (w : World) (a : Option Addr) (zs : List Int) : Prop :=
  (∀ z ∈ zs, 0 ≤ z ∧ z ≤ 255) ∧ ∀ j, j < zs.length → ∃ b off, a = some ⟨b, off, none⟩ ∧ b < w.heap.size ∧ w.cell? ⟨b, off + j, none⟩ = some (.int .u8 (zs.getD j 0))
theorem Arr.below {B : Nat} {w w' : World} {a : Option Addr} {zs : List Int} (h : Arr w a zs) (hb : Below B w w') (hB : w.heap.size ≤ B) : Arr w' a zs := by
  refine ⟨h.1, fun j hj => ?_⟩
  obtain ⟨b, off, ha, hlt, hc⟩ := h.2 j hj
  exact ⟨b, off, ha, by have := hb.size; omega, by rw [hb.cell (p := ⟨b, off + j, none⟩) (by show b < B; omega)]; exact hc⟩
theorem getD_bd {zs : List Int} (h : ∀ z ∈ zs, 0 ≤ z ∧ z ≤ 255) (j : Nat) : 0 ≤ zs.getD j 0 ∧ zs.getD j 0 ≤ 255 := by
  by_cases hj : j < zs.length
  · rw [List.getD_eq_getElem?_getD, List.getElem?_eq_getElem hj]; exact h _ (List.getElem_mem hj)
  · rw [List.getD_eq_getElem?_getD, List.getElem?_eq_none (by omega)]; simp
theorem grown_trans {a b c : World} {row : Option Nat} (h : a.grownBy b row) (k : b.grownBy c row) : a.grownBy c row :=
  ⟨k.os.trans h.os, k.tape.trans h.tape, k.output.trans h.output, Nat.le_trans h.size k.size, fun i hi hr => (k.block i (Nat.lt_of_lt_of_le hi h.size) hr).trans (h.block i hi hr)⟩

/-- A source of numbers in block g: its code's bytes zs, a place in them, a state. -/
def Src (w : World) (g t : Nat) (zs : List Int) : Prop :=
  ∃ (a : Option Addr) (cap : Nat) (pos st : Int), w.heap[g]? = some (.cells #[.slice a zs.length cap, .int .i64 pos, .int .u64 st] t) ∧ Arr w a zs ∧ 0 ≤ pos ∧ pos ≤ (zs.length : Int) ∧ 0 ≤ st ∧ st ≤ 18446744073709551615
theorem src_cells {w : World} {g t : Nat} {a b c : Value} (h : w.heap[g]? = some (.cells #[a, b, c] t)) :
    w.cell? ⟨g, 0, none⟩ = some a ∧ w.cell? ⟨g, 1, none⟩ = some b ∧ w.cell? ⟨g, 2, none⟩ = some c ∧ ∀ o, w.frozen? ⟨g, o, none⟩ = false :=
  ⟨cell_of_row w g 0 _ _ _ h, cell_of_row w g 1 _ _ _ h, cell_of_row w g 2 _ _ _ h, fun o => frozen_of_row w g o _ _ h⟩
theorem wrap_u64_bd (n : Int) : 0 ≤ IntKind.u64.wrap n ∧ IntKind.u64.wrap n ≤ 18446744073709551615 := by rw [wrap_u64]; omega
theorem xor_u64_bd (x y : Int) : 0 ≤ bits .xor .u64 x y ∧ bits .xor .u64 x y ≤ 18446744073709551615 := by
  have h := wf_bits .xor .u64 x y
  simpa [Lit.wf, IntKind.min, IntKind.max, IntKind.signed, IntKind.bits] using h
/-- A store into the block of a source changes nothing else. -/
theorem src_set {w : World} {g t j : Nat} {cur : Array Value} (u : Value) (h : w.heap[g]? = some (.cells cur t)) :
    (w.setCell ⟨g, j, none⟩ u).heap[g]? = some (.cells (cur.setIfInBounds j u) t) ∧ w.grownBy (w.setCell ⟨g, j, none⟩ u) (some g) :=
  ⟨heap_setCell_same w g j cur t u h, ⟨rfl, rfl, rfl, by simp, fun k _ hk => heap_setCell_other w ⟨g, j, none⟩ k u (fun e => hk (by simp [e]))⟩⟩
theorem grown_drewN {a w : World} {row : Option Nat} (h : a.grownBy w row) (n : Nat) : a.grownBy (w.drewN n) row := ⟨h.os, h.tape, h.output, h.size, h.block⟩
/-- Bytes that lie outside block g are the same when that block is written. -/
theorem Arr.grown {w w' : World} {g t : Nat} {a : Option Addr} {x y z : Value} {zs : List Int} (h : Arr w a zs) (hg : w.grownBy w' (some g)) (hb : w.heap[g]? = some (.cells #[x, y, z] t))
    (hx : ∀ n, x ≠ .int .u8 n) (hy : ∀ n, y ≠ .int .u8 n) (hz : ∀ n, z ≠ .int .u8 n) : Arr w' a zs := by
  refine ⟨h.1, fun j hj => ?_⟩
  obtain ⟨b, off, ha, hlt, hc⟩ := h.2 j hj
  have hne : b ≠ g := by
    rintro rfl
    rw [cell_of_row w b (off + j) _ _ _ hb] at hc
    match hoj : off + j with
    | 0 => rw [hoj] at hc; simp at hc; exact hx _ hc
    | 1 => rw [hoj] at hc; simp at hc; exact hy _ hc
    | 2 => rw [hoj] at hc; simp at hc; exact hz _ hc
    | k + 3 => rw [hoj] at hc; simp at hc
  refine ⟨b, off, ha, Nat.lt_of_lt_of_le hlt hg.size, ?_⟩
  exact hg.cell hc (by simp [hne])
theorem rem_bd {x n : Int} (hx : 0 ≤ x) (hn : 0 < n) (hn1 : n ≤ 9223372036854775807) : 0 ≤ wrap64 (x.tmod n) ∧ wrap64 (x.tmod n) < n := by
  rw [Int.tmod_eq_emod_of_nonneg hx]
  have h1 := Int.emod_nonneg x (show n ≠ 0 by omega)
  have h2 := Int.emod_lt_of_pos x hn
  unfold wrap64
  omega
theorem rem_bd' {x n : Int} (hn : 0 < n) (hn1 : n ≤ 9223372036854775807) : 0 ≤ wrap64 (x % n) ∧ wrap64 (x % n) < n := by
  have h1 := Int.emod_nonneg x (show n ≠ 0 by omega)
  have h2 := Int.emod_lt_of_pos x hn
  unfold wrap64
  omega

theorem Src.below {B : Nat} {w w' : World} {g t : Nat} {zs : List Int} (h : Src w g t zs) (hb : Below B w w') (hB : w.heap.size ≤ B) : Src w' g t zs := by
  obtain ⟨a, cap, pos, st, hg, harr, hp0, hp1, hs0, hs1⟩ := h
  have hlt : g < w.heap.size := by
    by_cases hlt : g < w.heap.size
    · exact hlt
    · rw [Array.getElem?_eq_none (by omega)] at hg; cases hg
  exact ⟨a, cap, pos, st, by rw [hb.block g (by omega)]; exact hg, harr.below hb hB, hp0, hp1, hs0, hs1⟩
theorem src_new {w : World} {t : Nat} {a : Option Addr} {n cap : Nat} {st : Int} {zs : List Int} (hn : zs.length = n) (ha : Arr w a zs) (h0 : 0 ≤ st) (h1 : st ≤ 18446744073709551615) :
    Src (w.alloc (.cells #[.slice a n cap, .int .i64 0, .int .u64 st] t)) w.heap.size t zs := by
  refine ⟨a, cap, 0, st, by rw [hn]; exact heap_alloc_new w _, ha.below ((Below.refl w.heap.size w).alloc (Nat.le_refl _) _) (Nat.le_refl _), Int.le_refl _, by omega, h0, h1⟩

/-- Where a source is being made: its place in the answer, and the source itself. -/
def Made (w w2 : World) (t : Nat) (a : Option Addr) (n cap : Nat) : Prop :=
  Below w.heap.size w w2 ∧ w.heap.size + 1 < w2.heap.size ∧ w2.heap[w.heap.size]? = some (.cells #[.slice none 0 0, .int .i64 0, .int .u64 0] t) ∧
    ∃ st : Int, 0 ≤ st ∧ st ≤ 18446744073709551615 ∧ w2.heap[w.heap.size + 1]? = some (.cells #[.slice a n cap, .int .i64 0, .int .u64 st] t)
theorem made_start (w : World) (t : Nat) (a : Option Addr) (n cap : Nat) (st : Int) (h0 : 0 ≤ st) (h1 : st ≤ 18446744073709551615) :
    Made w ((w.alloc (.cells #[.slice none 0 0, .int .i64 0, .int .u64 0] t)).alloc (.cells #[.slice a n cap, .int .i64 0, .int .u64 st] t)) t a n cap := by
  refine ⟨((Below.refl _ _).alloc (Nat.le_refl _) _).alloc (by rw [World.size_alloc]; omega) _, by rw [World.size_alloc, World.size_alloc]; omega, ?_, st, h0, h1, ?_⟩
  · rw [Below.heap_alloc _ _ w.heap.size (by rw [World.size_alloc]; omega)]; exact heap_alloc_new w _
  · have h := heap_alloc_new (w.alloc (.cells #[.slice none 0 0, .int .i64 0, .int .u64 0] t)) (.cells #[.slice a n cap, .int .i64 0, .int .u64 st] t)
    rw [World.size_alloc] at h; exact h
theorem made_set {w w2 : World} {t : Nat} {a : Option Addr} {n cap : Nat} (h : Made w w2 t a n cap) (s : Int) (h0 : 0 ≤ s) (h1 : s ≤ 18446744073709551615) :
    Made w (w2.setCell ⟨w.heap.size + 1, 2, none⟩ (.int .u64 s)).drew t a n cap := by
  obtain ⟨hb, hz, hr, st, _, _, hg⟩ := h
  refine ⟨(hb.setCell (p := ⟨w.heap.size + 1, 2, none⟩) (by show w.heap.size ≤ w.heap.size + 1; omega) _).drew, ?_, ?_, s, h0, h1, ?_⟩
  · show _ < (w2.setCell _ _).heap.size
    simpa using hz
  · show (w2.setCell _ _).heap[w.heap.size]? = _
    rw [heap_setCell_other w2 ⟨w.heap.size + 1, 2, none⟩ w.heap.size _ (by simp)]; exact hr
  · exact heap_setCell_same w2 (w.heap.size + 1) 2 _ t _ hg

set_option maxHeartbeats 1000000 in
theorem lwNext_more (g : Nat) (n : Int) (zs : List Int) (w : World) (a : Option Addr) (cap k : Nat) (st : Int) (hb : w.heap[g]? = some (.cells #[.slice a zs.length cap, .int .i64 (k : Int), .int .u64 st] 43)) (harr : Arr w a zs)
    (hk : k < zs.length) (hs0 : 0 ≤ st) (hs1 : st ≤ 18446744073709551615) (hn : 0 < n) (hn1 : n ≤ 9223372036854775807) (hl : zs.length ≤ 2097152) :
    Calls Try.prog 24 #[.pointer (some ⟨g, 0, none⟩), .int .i64 n] w fun e w' => ∃ r : Int, e = .returned (.int .i64 r) ∧ 0 ≤ r ∧ r < n ∧ w.grownBy w' (some g) ∧ Src w' g 43 zs := by
  obtain ⟨c0, c1, c2, hf⟩ := src_cells hb
  have HB := hide hb
  have HA := hide harr
  clear hb harr
  generalize hlen : zs.length = len at *
  have HL := hide hlen
  clear hlen
  go_enter Try.func24, Try.ntmps24
  go_wp2_with fail
  have hs2 := wrap_u64_bd (IntKind.u64.wrap (st * 6364136223846793005) + 1442695040888963407)
  generalize IntKind.u64.wrap (IntKind.u64.wrap (st * 6364136223846793005) + 1442695040888963407) = s1 at *
  obtain ⟨hb1, hg1⟩ := src_set (j := 2) (.int .u64 s1) HB.out
  have hb1' : (w.setCell ⟨g, 2, none⟩ (.int .u64 s1)).heap[g]? = some (.cells #[.slice a len cap, .int .i64 (k : Int), .int .u64 s1] 43) := hb1
  have HA1 := hide (HA.out.grown hg1 HB.out (by simp) (by simp) (by simp))
  clear hb1 c0 c1 c2 hf
  generalize w.setCell ⟨g, 2, none⟩ (.int .u64 s1) = W1 at *
  obtain ⟨c0, c1, c2, hf⟩ := src_cells hb1'
  have HB1 := hide hb1'
  clear hb1'
  go_quiet (fail)
  revert nq
  intro nq1
  go_wp2_with fail
  obtain ⟨b, off, rfl, hbs, hc⟩ := HA1.out.2 k (by rw [HL.out]; exact hk)
  go_quiet (fail)
  go_wp2_with fail
  go_ret
  obtain ⟨hb2, hg2⟩ := src_set (w := W1.drewN (nq1 + nq)) (j := 1) (.int .i64 ((k : Int) + 1)) HB1.out
  have hr := rem_bd (xor_u64_bd (s1 / 8589934592) (IntKind.u64.wrap (zs[k]?.getD 0))).1 hn hn1
  have hG := grown_trans (grown_drewN hg1 (nq1 + nq)) hg2
  refine ⟨_, rfl, hr.1, hr.2, hG, some ⟨b, off, none⟩, cap, (k : Int) + 1, s1, ?_, ?_, by omega, ?_, hs2.1, hs2.2⟩
  · rw [HL.out]; exact hb2
  · exact (show Arr (W1.drewN (nq1 + nq)) _ zs from HA1.out).grown hg2 HB1.out (by simp) (by simp) (by simp)
  · rw [HL.out]; omega
set_option maxHeartbeats 1000000 in
theorem lwNext_end (g : Nat) (n : Int) (zs : List Int) (w : World) (a : Option Addr) (cap k : Nat) (st : Int) (hb : w.heap[g]? = some (.cells #[.slice a zs.length cap, .int .i64 (k : Int), .int .u64 st] 43)) (harr : Arr w a zs)
    (hk : k = zs.length) (hs0 : 0 ≤ st) (hs1 : st ≤ 18446744073709551615) (hn : 0 < n) (hn1 : n ≤ 9223372036854775807) (hl : zs.length ≤ 2097152) :
    Calls Try.prog 24 #[.pointer (some ⟨g, 0, none⟩), .int .i64 n] w fun e w' => ∃ r : Int, e = .returned (.int .i64 r) ∧ 0 ≤ r ∧ r < n ∧ w.grownBy w' (some g) ∧ Src w' g 43 zs := by
  obtain ⟨c0, c1, c2, hf⟩ := src_cells hb
  have HB := hide hb
  have HA := hide harr
  clear hb harr
  have hkl : ¬ (k : Int) < (zs.length : Int) := by omega
  generalize hlen : zs.length = len at *
  have HL := hide hlen
  clear hlen
  have HK := hide hk
  clear hk
  go_enter Try.func24, Try.ntmps24
  go_wp2_with fail
  have hs2 := wrap_u64_bd (IntKind.u64.wrap (st * 6364136223846793005) + 1442695040888963407)
  generalize IntKind.u64.wrap (IntKind.u64.wrap (st * 6364136223846793005) + 1442695040888963407) = s1 at *
  obtain ⟨hb1, hg1⟩ := src_set (j := 2) (.int .u64 s1) HB.out
  have hb1' : (w.setCell ⟨g, 2, none⟩ (.int .u64 s1)).heap[g]? = some (.cells #[.slice a len cap, .int .i64 (k : Int), .int .u64 s1] 43) := hb1
  have HA1 := hide (HA.out.grown hg1 HB.out (by simp) (by simp) (by simp))
  clear hb1 c0 c1 c2 hf
  generalize w.setCell ⟨g, 2, none⟩ (.int .u64 s1) = W1 at *
  obtain ⟨c0, c1, c2, hf⟩ := src_cells hb1'
  have HB1 := hide hb1'
  clear hb1'
  go_quiet (fail)
  go_wp2_with fail
  go_ret
  have hr := rem_bd' (x := s1 / 8589934592) hn hn1
  refine ⟨_, rfl, hr.1, hr.2, grown_drewN hg1 nq, a, cap, (k : Int), s1, ?_, HA1.out, by omega, ?_, hs2.1, hs2.2⟩
  · rw [HL.out]; exact HB1.out
  · have h1 := HK.out; have h2 := HL.out; omega
theorem lwNext_walk (g : Nat) (n : Int) (zs : List Int) (w : World) (h : Src w g 43 zs) (hn : 0 < n) (hn1 : n ≤ 9223372036854775807) (hl : zs.length ≤ 2097152) :
    Calls Try.prog 24 #[.pointer (some ⟨g, 0, none⟩), .int .i64 n] w fun e w' => ∃ r : Int, e = .returned (.int .i64 r) ∧ 0 ≤ r ∧ r < n ∧ w.grownBy w' (some g) ∧ Src w' g 43 zs := by
  obtain ⟨a, cap, pos, st, hb, harr, hp0, hp1, hs0, hs1⟩ := h
  obtain ⟨k, rfl⟩ := Int.eq_ofNat_of_zero_le hp0
  by_cases hk : k < zs.length
  · exact lwNext_more g n zs w a cap k st hb harr hk hs0 hs1 hn hn1 hl
  · exact lwNext_end g n zs w a cap k st hb harr (by omega) hs0 hs1 hn hn1 hl

set_option maxHeartbeats 1000000 in
theorem lwBegin_walk (a : Option Addr) (n cap : Nat) (salt : Int) (zs : List Int) (w : World) (hn : zs.length = n) (ha : Arr w a zs) (hs0 : 0 ≤ salt) (hs1 : salt ≤ 1000) (hm : n ≤ 2097152) :
    Calls Try.prog 23 #[.slice a n cap, .int .u64 salt] w fun e w' => ∃ st : Int, e = .returned (.agg #[.slice a n cap, .int .i64 0, .int .u64 st]) ∧ 0 ≤ st ∧ st ≤ 18446744073709551615 ∧ Below w.heap.size w w' := by
  have HN := hide hn
  have HA := hide ha
  clear hn ha
  go_enter Try.func23, Try.ntmps23
  go_wp2_with fail
  have hmade := hide (made_start w 43 a n cap (88172645463325252 + salt * 977) (by omega) (by omega))
  generalize (w.alloc (.cells #[.slice none 0 0, .int .i64 0, .int .u64 0] 43)).alloc (.cells #[.slice a n cap, .int .i64 0, .int .u64 (88172645463325252 + salt * 977)] 43) = W at *
  go_loopw [6] (fun t w2 => ∃ k : Nat, k ≤ n ∧ t = .int .i64 k ∧ Hid (Made w w2 43 a n cap)) (fun t _ => n - (intOf t).toNat)
  case atStart => exact ⟨0, Nat.zero_le _, rfl, hmade⟩
  case round =>
    obtain ⟨k, hk, rfl, HM⟩ := hrel
    obtain ⟨hb, hz, hr, st, hs0, hs1, hg⟩ := HM.out
    by_cases hlt : k < n
    · obtain ⟨b, off, rfl, hbs, hc0⟩ := HA.out.2 k (by rw [HN.out]; exact hlt)
      have hc : wr.cell? ⟨b, off + k, none⟩ = some (.int .u8 (zs.getD k 0)) := by rw [hb.cell (p := ⟨b, off + k, none⟩) hbs]; exact hc0
      clear hc0
      have hz := getD_bd HA.out.1 k
      generalize zs.getD k 0 = z at *
      obtain ⟨c0, c1, c2, hf⟩ := src_cells hg
      clear hr hg hmade c0 c1
      have hx := xor_u64_bd st z
      go_wp2
      go_region
      go_wp2
      have hw := wrap_u64_bd (bits .xor .u64 st z * 1099511628211)
      exact ⟨⟨k + 1, by omega, by go_num, hide (made_set HM.out _ hw.1 hw.2)⟩, by simp [intOf]; omega⟩
    · obtain ⟨c0, c1, c2, hf⟩ := src_cells hg
      obtain ⟨d0, d1, d2, hf2⟩ := src_cells hr
      clear hr hg hmade
      go_wp2
      exact bodyPost_ret (v := .agg #[.slice a n cap, .int .i64 0, .int .u64 st]) (by simp [results, Try.results23, go_sem, d0, d1, d2]) rfl ⟨st, rfl, hs0, hs1, ((hb.setCell (Nat.le_refl _) _).setCell (Nat.le_refl _) _).setCell (Nat.le_refl _) _⟩

/-- A source of numbers in block g whose code is the slice (a, n, cap). -/
def SrcA (w : World) (g t n : Nat) (a : Option Addr) (cap : Nat) : Prop :=
  ∃ (pos st : Int), w.heap[g]? = some (.cells #[.slice a n cap, .int .i64 pos, .int .u64 st] t) ∧ 0 ≤ pos ∧ pos ≤ (n : Int) ∧ 0 ≤ st ∧ st ≤ 18446744073709551615
theorem SrcA.lt {w : World} {g t n : Nat} {a : Option Addr} {cap : Nat} (h : SrcA w g t n a cap) : g < w.heap.size := by
  obtain ⟨pos, st, hg, _⟩ := h
  by_cases hlt : g < w.heap.size
  · exact hlt
  · rw [Array.getElem?_eq_none (by omega)] at hg; cases hg
/-- Only what happens to its own block counts for a source. -/
theorem SrcA.same {w w' : World} {g t n : Nat} {a : Option Addr} {cap : Nat} (h : SrcA w g t n a cap) (hb : w'.heap[g]? = w.heap[g]?) : SrcA w' g t n a cap := by
  obtain ⟨pos, st, hg, r⟩ := h
  exact ⟨pos, st, by rw [hb]; exact hg, r⟩
theorem SrcA.alloc {w : World} {g t n : Nat} {a : Option Addr} {cap : Nat} (h : SrcA w g t n a cap) (o : Obj) : SrcA (w.alloc o) g t n a cap :=
  h.same (Below.heap_alloc w o g h.lt)
theorem SrcA.below {w w' : World} {B g t n : Nat} {a : Option Addr} {cap : Nat} (h : SrcA w g t n a cap) (hb : Below B w w') (hB : w.heap.size ≤ B) : SrcA w' g t n a cap :=
  h.same (hb.block g (Nat.lt_of_lt_of_le h.lt hB))
theorem SrcA.set {w : World} {g t n : Nat} {a : Option Addr} {cap : Nat} (h : SrcA w g t n a cap) {p : Addr} (hp : g ≠ p.block) (u : Value) : SrcA (w.setCell p u) g t n a cap :=
  h.same (heap_setCell_other w p g u hp)
/-- Bytes elsewhere are the same behind whatever leaves all but the source's block as it was. -/
theorem Arr.srcA {w w' : World} {g t n cap : Nat} {a b : Option Addr} {zs : List Int} (h : Arr w b zs) (hs : SrcA w g t n a cap) (hg : w.grownBy w' (some g)) : Arr w' b zs := by
  obtain ⟨pos, st, hb, _⟩ := hs
  exact h.grown hg hb (by simp) (by simp) (by simp)
theorem grown_alloc {a w : World} {row : Option Nat} (h : a.grownBy w row) (o : Obj) : a.grownBy (w.alloc o) row := grown_trans h (World.grownBy_alloc w o row)
/-- A store into a block that was not there before. -/
theorem grown_set {a w : World} {row : Option Nat} (h : a.grownBy w row) {p : Addr} (hp : a.heap.size ≤ p.block) (u : Value) : a.grownBy (w.setCell p u) row :=
  ⟨h.os, h.tape, h.output, by simpa using h.size, fun k hk hr => by rw [heap_setCell_other w p k u (by omega)]; exact h.block k hk hr⟩
theorem grown_drew {a w : World} {row : Option Nat} (h : a.grownBy w row) : a.grownBy w.drew row := ⟨h.os, h.tape, h.output, h.size, h.block⟩
theorem grown_below {a w w' : World} {row : Option Nat} (h : a.grownBy w row) (hb : Below w.heap.size w w') : a.grownBy w' row :=
  ⟨hb.os.trans h.os, hb.tape.trans h.tape, hb.output.trans h.output, Nat.le_trans h.size hb.size, fun k hk hr => (hb.block k (Nat.lt_of_lt_of_le hk h.size)).trans (h.block k hk hr)⟩
theorem below_grown {w w' : World} {g : Nat} {B : Nat} (hB : B ≤ g) (hw : B ≤ w.heap.size) (h : w.grownBy w' (some g)) : Below B w w' :=
  ⟨h.os, h.tape, h.output, h.size, fun k hk => h.block k (by omega) (by simp; omega)⟩

set_option maxHeartbeats 1000000 in
theorem lwNextA_more (g : Nat) (n : Int) (zs : List Int) (w : World) (a : Option Addr) (cap k : Nat) (st : Int) (hb : w.heap[g]? = some (.cells #[.slice a zs.length cap, .int .i64 (k : Int), .int .u64 st] 43)) (harr : Arr w a zs)
    (hk : k < zs.length) (hs0 : 0 ≤ st) (hs1 : st ≤ 18446744073709551615) (hn : 0 < n) (hn1 : n ≤ 9223372036854775807) (hl : zs.length ≤ 2097152) :
    Calls Try.prog 24 #[.pointer (some ⟨g, 0, none⟩), .int .i64 n] w fun e w' => ∃ r : Int, e = .returned (.int .i64 r) ∧ 0 ≤ r ∧ r < n ∧ w.grownBy w' (some g) ∧ SrcA w' g 43 zs.length a cap := by
  obtain ⟨c0, c1, c2, hf⟩ := src_cells hb
  have HB := hide hb
  have HA := hide harr
  clear hb harr
  generalize hlen : zs.length = len at *
  have HL := hide hlen
  clear hlen
  go_enter Try.func24, Try.ntmps24
  go_wp2_with fail
  have hs2 := wrap_u64_bd (IntKind.u64.wrap (st * 6364136223846793005) + 1442695040888963407)
  generalize IntKind.u64.wrap (IntKind.u64.wrap (st * 6364136223846793005) + 1442695040888963407) = s1 at *
  obtain ⟨hb1, hg1⟩ := src_set (j := 2) (.int .u64 s1) HB.out
  have hb1' : (w.setCell ⟨g, 2, none⟩ (.int .u64 s1)).heap[g]? = some (.cells #[.slice a len cap, .int .i64 (k : Int), .int .u64 s1] 43) := hb1
  have HA1 := hide (HA.out.grown hg1 HB.out (by simp) (by simp) (by simp))
  clear hb1 c0 c1 c2 hf
  generalize w.setCell ⟨g, 2, none⟩ (.int .u64 s1) = W1 at *
  obtain ⟨c0, c1, c2, hf⟩ := src_cells hb1'
  have HB1 := hide hb1'
  clear hb1'
  go_quiet (fail)
  revert nq
  intro nq1
  go_wp2_with fail
  obtain ⟨b, off, rfl, hbs, hc⟩ := HA1.out.2 k (by rw [HL.out]; exact hk)
  go_quiet (fail)
  go_wp2_with fail
  go_ret
  obtain ⟨hb2, hg2⟩ := src_set (w := W1.drewN (nq1 + nq)) (j := 1) (.int .i64 ((k : Int) + 1)) HB1.out
  have hr := rem_bd (xor_u64_bd (s1 / 8589934592) (IntKind.u64.wrap (zs[k]?.getD 0))).1 hn hn1
  have hG := grown_trans (grown_drewN hg1 (nq1 + nq)) hg2
  refine ⟨_, rfl, hr.1, hr.2, hG, (k : Int) + 1, s1, hb2, by omega, by omega, hs2.1, hs2.2⟩
set_option maxHeartbeats 1000000 in
theorem lwNextA_end (g : Nat) (n : Int) (zs : List Int) (w : World) (a : Option Addr) (cap k : Nat) (st : Int) (hb : w.heap[g]? = some (.cells #[.slice a zs.length cap, .int .i64 (k : Int), .int .u64 st] 43)) (harr : Arr w a zs)
    (hk : k = zs.length) (hs0 : 0 ≤ st) (hs1 : st ≤ 18446744073709551615) (hn : 0 < n) (hn1 : n ≤ 9223372036854775807) (hl : zs.length ≤ 2097152) :
    Calls Try.prog 24 #[.pointer (some ⟨g, 0, none⟩), .int .i64 n] w fun e w' => ∃ r : Int, e = .returned (.int .i64 r) ∧ 0 ≤ r ∧ r < n ∧ w.grownBy w' (some g) ∧ SrcA w' g 43 zs.length a cap := by
  obtain ⟨c0, c1, c2, hf⟩ := src_cells hb
  have HB := hide hb
  have HA := hide harr
  clear hb harr
  have hkl : ¬ (k : Int) < (zs.length : Int) := by omega
  generalize hlen : zs.length = len at *
  have HL := hide hlen
  clear hlen
  have HK := hide hk
  clear hk
  go_enter Try.func24, Try.ntmps24
  go_wp2_with fail
  have hs2 := wrap_u64_bd (IntKind.u64.wrap (st * 6364136223846793005) + 1442695040888963407)
  generalize IntKind.u64.wrap (IntKind.u64.wrap (st * 6364136223846793005) + 1442695040888963407) = s1 at *
  obtain ⟨hb1, hg1⟩ := src_set (j := 2) (.int .u64 s1) HB.out
  have hb1' : (w.setCell ⟨g, 2, none⟩ (.int .u64 s1)).heap[g]? = some (.cells #[.slice a len cap, .int .i64 (k : Int), .int .u64 s1] 43) := hb1
  have HA1 := hide (HA.out.grown hg1 HB.out (by simp) (by simp) (by simp))
  clear hb1 c0 c1 c2 hf
  generalize w.setCell ⟨g, 2, none⟩ (.int .u64 s1) = W1 at *
  obtain ⟨c0, c1, c2, hf⟩ := src_cells hb1'
  have HB1 := hide hb1'
  clear hb1'
  go_quiet (fail)
  go_wp2_with fail
  go_ret
  have hr := rem_bd' (x := s1 / 8589934592) hn hn1
  refine ⟨_, rfl, hr.1, hr.2, grown_drewN hg1 nq, (k : Int), s1, HB1.out, by omega, by have h1 := HK.out; omega, hs2.1, hs2.2⟩
theorem lwNextA_walk (g : Nat) (n : Int) (zs : List Int) (w : World) (a : Option Addr) (cap : Nat) (harr : Arr w a zs) (h : SrcA w g 43 zs.length a cap) (hn : 0 < n) (hn1 : n ≤ 9223372036854775807) (hl : zs.length ≤ 2097152) :
    Calls Try.prog 24 #[.pointer (some ⟨g, 0, none⟩), .int .i64 n] w fun e w' => ∃ r : Int, e = .returned (.int .i64 r) ∧ 0 ≤ r ∧ r < n ∧ w.grownBy w' (some g) ∧ SrcA w' g 43 zs.length a cap := by
  obtain ⟨pos, st, hb, hp0, hp1, hs0, hs1⟩ := h
  obtain ⟨k, rfl⟩ := Int.eq_ofNat_of_zero_le hp0
  by_cases hk : k < zs.length
  · exact lwNextA_more g n zs w a cap k st hb harr hk hs0 hs1 hn hn1 hl
  · exact lwNextA_end g n zs w a cap k st hb harr (by omega) hs0 hs1 hn hn1 hl

/-- What the walk is told of a slice of integers that came in: nil, or a row of 'cap' cells, the first 'len' of them its elements. -/
def IsRow (k : IntKind) (w : World) (a : Option Addr) (len cap : Nat) (zs : List Int) : Prop :=
  (a = none ∧ len = 0 ∧ cap = 0 ∧ zs = []) ∨
  ∃ x, a = some x ∧ len ≤ cap ∧ cap ≤ maxLen ∧ zs.length = cap ∧ (∀ i, i < zs.length → w.cell? (x.add i) = some (.int k (zs.getD i 0))) ∧ ∀ n ∈ zs, (Lit.int k n).wf = true
theorem cell_lt {w : World} {b o : Nat} {v : Value} (h : w.cell? ⟨b, o, none⟩ = some v) : b < w.heap.size := by
  by_cases hb : b < w.heap.size
  · exact hb
  · exfalso
    unfold World.cell? at h
    simp [Array.getElem?_eq_none (Nat.le_of_not_lt hb)] at h
theorem IsRow.arr {w : World} {a : Option Addr} {len cap : Nat} {zs : List Int} (h : IsRow .u8 w a len cap zs) : ∃ ys : List Int, ys.length = len ∧ Arr w a ys := by
  rcases h with ⟨rfl, rfl, rfl, rfl⟩ | ⟨x, rfl, hl, hm, hz, hcell, hwz⟩
  · exact ⟨[], rfl, by simp, fun j hj => by simp at hj⟩
  · refine ⟨zs.take len, by simp; omega, ?_, ?_⟩
    · intro z hz'
      have := hwz z (List.mem_of_mem_take hz')
      simpa [Lit.wf, IntKind.min, IntKind.max, IntKind.signed, IntKind.bits] using this
    · intro j hj
      have hj' : j < len := by simp at hj; omega
      obtain ⟨b, off, rfl, hc⟩ := ints_at hcell (by omega)
      have h1 := hc j (by omega)
      refine ⟨b, off, rfl, cell_lt h1, ?_⟩
      rw [h1, List.getD_eq_getElem?_getD, List.getD_eq_getElem?_getD, List.getElem?_take, if_pos hj']

/-- A draw's source in block g, the world below its beginning as it was. -/
def LwS (w W : World) (g n : Nat) (a : Option Addr) (cap : Nat) : Prop := Below w.heap.size w W ∧ SrcA W g 43 n a cap ∧ w.heap.size ≤ g
theorem LwS.next {w W W' : World} {g n cap : Nat} {a : Option Addr} (h : LwS w W g n a cap) (hb : Below W.heap.size W W') : LwS w W' g n a cap := ⟨h.1.trans (hb.mono h.1.size), h.2.1.below hb (Nat.le_refl _), h.2.2⟩
theorem LwS.step {w W W' : World} {g n cap : Nat} {a : Option Addr} (h : LwS w W g n a cap) (hg : W.grownBy W' (some g)) (hs : SrcA W' g 43 n a cap) : LwS w W' g n a cap := ⟨h.1.trans (below_grown h.2.2 h.1.size hg), hs, h.2.2⟩
theorem LwS.put {w W : World} {g n cap : Nat} {a : Option Addr} (h : LwS w W g n a cap) {b i : Nat} (hb : w.heap.size ≤ b) (hg : g ≠ b) (y : Value) : LwS w (W.setCell ⟨b, i, none⟩ y) g n a cap := ⟨h.1.setCell (p := ⟨b, i, none⟩) hb _, h.2.1.set (p := ⟨b, i, none⟩) hg y, h.2.2⟩
theorem LwS.drew {w W : World} {g n cap : Nat} {a : Option Addr} (h : LwS w W g n a cap) : LwS w W.drew g n a cap := ⟨h.1.drew, h.2.1, h.2.2⟩
theorem LwS.lt {w W : World} {g n cap : Nat} {a : Option Addr} (h : LwS w W g n a cap) : g < W.heap.size := h.2.1.lt
/-- .. and a box of one's own beside it. -/
def LwB (w W : World) (g n : Nat) (a : Option Addr) (cap : Nat) (r : Nat) (vs : Array Value) (T : Nat) : Prop := LwS w W g n a cap ∧ HoldV W r vs T ∧ g ≠ r ∧ w.heap.size ≤ r
theorem LwB.next {w W W' : World} {g n cap r T : Nat} {a : Option Addr} {vs : Array Value} (h : LwB w W g n a cap r vs T) (hb : Below W.heap.size W W') : LwB w W' g n a cap r vs T := ⟨h.1.next hb, h.2.1.next hb, h.2.2⟩
theorem LwB.step {w W W' : World} {g n cap r T : Nat} {a : Option Addr} {vs : Array Value} (h : LwB w W g n a cap r vs T) (hg : W.grownBy W' (some g)) (hs : SrcA W' g 43 n a cap) : LwB w W' g n a cap r vs T :=
  ⟨h.1.step hg hs, (hg.block r h.2.1.lt (fun e => h.2.2.1 (by injection e with e; exact e.symm))).trans h.2.1, h.2.2⟩
theorem LwB.drew {w W : World} {g n cap r T : Nat} {a : Option Addr} {vs : Array Value} (h : LwB w W g n a cap r vs T) : LwB w W.drew g n a cap r vs T := ⟨h.1.drew, h.2.1, h.2.2⟩
theorem LwB.put {w W : World} {g n cap r T : Nat} {a : Option Addr} {vs : Array Value} (h : LwB w W g n a cap r vs T) (i : Nat) (y : Value) : LwB w (W.setCell ⟨r, i, none⟩ y) g n a cap r (vs.setIfInBounds i y) T := ⟨h.1.put h.2.2.2 h.2.2.1 y, h.2.1.putb i y, h.2.2⟩
theorem LwB.four {w W : World} {g n cap r T : Nat} {a : Option Addr} {v0 v1 v2 v3 : Value} (h : LwB w W g n a cap r #[v0, v1, v2, v3] T) (u0 u1 u2 u3 : Value) : LwB w ((((W.setCell ⟨r, 0, none⟩ u0).setCell ⟨r, 1, none⟩ u1).setCell ⟨r, 2, none⟩ u2).setCell ⟨r, 3, none⟩ u3) g n a cap r #[u0, u1, u2, u3] T := by
  have q := (((h.put 0 u0).put 1 u1).put 2 u2).put 3 u3
  simp only [List.setIfInBounds_toArray, List.set_cons_zero, List.set_cons_succ] at q
  exact q
theorem LwB.start {w W : World} {g n cap : Nat} {a : Option Addr} (h : LwS w W g n a cap) (vs : Array Value) (T : Nat) : LwB w (W.alloc (.cells vs T)) g n a cap W.heap.size vs T :=
  ⟨h.next ((Below.refl _ _).alloc (Nat.le_refl _) _), heap_alloc_new _ _, Nat.ne_of_lt h.lt, h.1.size⟩
theorem LwS.start {w w1 : World} {n cap : Nat} {a : Option Addr} {st : Int} (hb : Below w.heap.size w w1) (h0 : 0 ≤ st) (h1 : st ≤ 18446744073709551615) : LwS w (w1.alloc (.cells #[.slice a n cap, .int .i64 0, .int .u64 st] 43)) w1.heap.size n a cap :=
  ⟨hb.trans (((Below.refl _ _).alloc (Nat.le_refl _) _).mono hb.size), ⟨0, st, heap_alloc_new _ _, by omega, by omega, h0, h1⟩, hb.size⟩
theorem LwS.draw {w W : World} {g len cap : Nat} {a : Option Addr} {ys : List Int} (hN : ys.length = len) (hA : Arr w a ys) (hy : ys.length ≤ 2097152) (h : LwS w W g len a cap) (n : Int) (hn : 0 < n) (hn1 : n ≤ 9223372036854775807) :
    Calls Try.prog 24 #[.pointer (some ⟨g, 0, none⟩), .int .i64 n] W fun e W' => ∃ x : Int, e = .returned (.int .i64 x) ∧ 0 ≤ x ∧ x < n ∧ W.grownBy W' (some g) ∧ SrcA W' g 43 len a cap := by
  have q := lwNextA_walk g n ys W a cap (hA.below h.1 (Nat.le_refl _)) (by rw [hN]; exact h.2.1) hn hn1 hy
  rw [hN] at q
  exact q
/-- One more box is as it was where another block alone was written. -/
theorem HoldV.grown {W W' : World} {g b T : Nat} {vs : Array Value} (h : HoldV W b vs T) (hg : W.grownBy W' (some g)) (hne : g ≠ b) : HoldV W' b vs T := (hg.block b h.lt (fun e => hne (by injection e with e; exact e.symm))).trans h
end Go.Proofs.Ytnnijikfppijfab
