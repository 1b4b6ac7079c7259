/-
Contracts of functions of this seat.
-/
import Derived.Test.YthbkhfiadkookaaGreatDoorRows
import Derived.WalkKit
import Derived.ProofKit
import Derived.OpenShut
import Derived.Deep.QuietTactic
import Derived.Below
import Derived.Laws.Externs
import Derived.OwnWalk
import Derived.BigQuiet
import Derived.ArgAppend
import Derived.RegionTactic
import Derived.ChangeAlike
import Derived.Laws.IdiomStrings
import Derived.Laws.BytesArg
import Derived.Deep.RegionHeld3
import Derived.Deep.CutRange
import Derived.LaidEql
import Derived.Stop.Asserts
import Derived.RowKitTokens
import Derived.Laws.CopyOwn
import Derived.Laws.OwnMore
namespace Go.Proofs.YthbkhfiadkookaaGreatDoor
open Go.ChangeShapes Go.WideShapes Go.ChangeAt Go.RowKit
set_option linter.unusedVariables false
set_option maxRecDepth 100000
section
set_option maxRecDepth 100000
theorem ret_int {k : IntKind} {a b : Int} (h : a = b) : Ending.returned (.int k a) = .returned (.int k b) := by rw [h]
theorem ret_bool {a b : Bool} (h : a = b) : Ending.returned (.bool a) = .returned (.bool b) := by rw [h]
theorem hide {P : Prop} (h : P) : Hid P := h
theorem below_drewN {B : Nat} {a w : World} (h : Below B a w) (n : Nat) : Below B a (w.drewN n) := ⟨h.os, h.tape, h.output, h.size, h.block⟩
/-- 'x & (2^i - 1)' is x modulo 2^i, also of a number below 0. -/
theorem and_mask (k : IntKind) (i : Nat) (hi : i ≤ k.bits) (hk : ∀ n : Int, 0 ≤ n → n < 2 ^ i → k.wrap n = n) (x : Int) :
    bits .and k x ((2 ^ i - 1 : Nat) : Int) = x % 2 ^ i := by
  have hpos : 0 < 2 ^ i := Nat.two_pow_pos i
  have hle : 2 ^ i ≤ 2 ^ k.bits := Nat.pow_le_pow_right (by decide) hi
  have hm : (2 ^ i - 1) % 2 ^ k.bits = 2 ^ i - 1 := Nat.mod_eq_of_lt (by omega)
  have hd : (2 ^ i : Int) ∣ 2 ^ k.bits := by
    obtain ⟨c, hc⟩ := Nat.pow_dvd_pow 2 hi
    exact ⟨(c : Int), by exact_mod_cast hc⟩
  have hx : (((x % (2 ^ k.bits : Nat)).toNat % 2 ^ i : Nat) : Int) = x % 2 ^ i := by
    have h0 : 0 ≤ x % ((2 ^ k.bits : Nat) : Int) := Int.emod_nonneg _ (by have := Nat.two_pow_pos k.bits; omega)
    rw [Int.natCast_emod, Int.toNat_of_nonneg h0]
    push_cast
    exact Int.emod_emod_of_dvd x hd
  have hn : (x % (2 ^ k.bits : Nat)).toNat &&& (2 ^ i - 1) = (x % (2 ^ k.bits : Nat)).toNat % 2 ^ i := Nat.and_two_pow_sub_one_eq_mod _ _
  simp only [bits, BitVec.ofInt_natCast, BitVec.toNat_and, BitVec.toNat_ofNat, BitVec.toNat_ofInt, hm, hn, hx]
  exact hk _ (Int.emod_nonneg _ (by have : (0 : Int) < 2 ^ i := by exact_mod_cast hpos
                                    omega)) (Int.emod_lt_of_pos _ (by exact_mod_cast hpos))
theorem wrap_i64' (n : Int) (h0 : 0 ≤ n) (h1 : n ≤ 9223372036854775807) : IntKind.i64.wrap n = n := by rw [IntKind.wrap_i64]; omega
theorem wrap_u64 (n : Int) : IntKind.u64.wrap n = n % 18446744073709551616 := by simp [IntKind.wrap, IntKind.bits, IntKind.signed]
theorem wrap_u16 (n : Int) : IntKind.u16.wrap n = n % 65536 := by simp [IntKind.wrap, IntKind.bits, IntKind.signed]
theorem and_1_i64 (x : Int) : bits .and .i64 x 1 = x % 2 :=
  and_mask .i64 1 (by decide) (fun n h0 h1 => wrap_i64' n h0 (by omega)) x
theorem and_65535_u64 (x : Int) : bits .and .u64 x 65535 = x % 65536 :=
  and_mask .u64 16 (by decide) (fun n h0 h1 => by rw [wrap_u64]; omega) x
/-- '^x' of an unsigned number: what is lacking to the greatest. -/
theorem not_of (k : IntKind) (hu : k.signed = false) (x : Int) (h0 : 0 ≤ x) (h1 : x < 2 ^ k.bits) : bits .xor k k.max x = k.max - x := by
  obtain ⟨a, rfl⟩ := Int.eq_ofNat_of_zero_le h0
  have ha : a < 2 ^ k.bits := by exact_mod_cast h1
  have hpos : 0 < 2 ^ k.bits := Nat.two_pow_pos _
  have hmax : k.max = ((2 ^ k.bits - 1 : Nat) : Int) := by
    unfold IntKind.max
    rw [if_neg (by simp [hu]), Int.natCast_sub hpos]; simp
  have hall : BitVec.ofInt k.bits k.max = BitVec.allOnes k.bits := by
    rw [hmax, BitVec.ofInt_natCast]; apply BitVec.eq_of_toNat_eq; simp
  have hw : ∀ n : Nat, n < 2 ^ k.bits → k.wrap n = n := by
    intro n hn
    unfold IntKind.wrap
    simp only [hu, Bool.false_and]
    rw [if_neg (by simp)]
    exact_mod_cast Nat.mod_eq_of_lt hn
  unfold bits
  simp only [hall, BitVec.allOnes_xor, BitVec.toNat_not, BitVec.ofInt_natCast, BitVec.toNat_ofNat, Nat.mod_eq_of_lt ha]
  rw [hw _ (by omega), hmax]
  omega
theorem not_u16 (n : Int) : bits .xor .u16 IntKind.u16.max (n % 65536) = 65535 - n % 65536 :=
  not_of .u16 rfl (n % 65536) (by omega) (by show _ < (65536 : Int); omega)
theorem signed_u16 : IntKind.u16.signed = false := rfl
/-- The text of a row of bytes. -/
def bs (l : List UInt8) : ByteArray := ⟨l.toArray⟩
/-- The bytes of a slice whose array begins at a: zs, from the first on. -/
def Arr (w : World) (a : Option Addr) (zs : List Int) : Prop :=
  (∀ z ∈ zs, 0 ≤ z ∧ z ≤ 255) ∧ ∀ j, j < zs.length → ∃ b off, a = some ⟨b, off, none⟩ ∧ b < w.heap.size ∧ w.cell? ⟨b, off + j, none⟩ = some (.int .u8 (zs.getD j 0))
theorem Arr.below {B : Nat} {w w' : World} {a : Option Addr} {zs : List Int} (h : Arr w a zs) (hb : Below B w w') (hB : w.heap.size ≤ B) : Arr w' a zs := by
  refine ⟨h.1, fun j hj => ?_⟩
  obtain ⟨b, off, ha, hlt, hc⟩ := h.2 j hj
  exact ⟨b, off, ha, by have := hb.size; omega, by rw [hb.cell (p := ⟨b, off + j, none⟩) (by show b < B; omega)]; exact hc⟩
theorem getD_bd {zs : List Int} (h : ∀ z ∈ zs, 0 ≤ z ∧ z ≤ 255) (j : Nat) : 0 ≤ zs.getD j 0 ∧ zs.getD j 0 ≤ 255 := by
  by_cases hj : j < zs.length
  · rw [List.getD_eq_getElem?_getD, List.getElem?_eq_getElem hj]; exact h _ (List.getElem_mem hj)
  · rw [List.getD_eq_getElem?_getD, List.getElem?_eq_none (by omega)]; simp
theorem grown_trans {a b c : World} {row : Option Nat} (h : a.grownBy b row) (k : b.grownBy c row) : a.grownBy c row :=
  ⟨k.os.trans h.os, k.tape.trans h.tape, k.output.trans h.output, Nat.le_trans h.size k.size, fun i hi hr => (k.block i (Nat.lt_of_lt_of_le hi h.size) hr).trans (h.block i hi hr)⟩


/-- A number out of bytes, the highest first. -/
def tnum (zs : List Int) : Int := zs.foldl (fun n x => n * 256 + x) 0
theorem tnum_take (zs : List Int) (k : Nat) (h : k < zs.length) : tnum (zs.take (k + 1)) = tnum (zs.take k) * 256 + zs.getD k 0 := by
  unfold tnum
  rw [List.take_succ_eq_append_getElem h, List.foldl_append]
  simp [List.getD_eq_getElem?_getD, h]
theorem tnum_bd (zs : List Int) (h : ∀ z ∈ zs, 0 ≤ z ∧ z ≤ 255) : ∀ k, k ≤ zs.length → 0 ≤ tnum (zs.take k) ∧ tnum (zs.take k) < 256 ^ k
  | 0, _ => by simp [tnum]
  | k + 1, hk => by
    have ih := tnum_bd zs h k (by omega)
    rw [tnum_take zs k (by omega), Int.pow_succ]
    have := getD_bd h k
    omega
theorem or_low_i64 (x y : Int) (hx : 0 ≤ x) (hx1 : x < 36028797018963968) (hy : 0 ≤ y ∧ y ≤ 255) : bits .or .i64 (x * 256) y = x * 256 + y :=
  bits_join .i64 63 (by decide) (fun n h0 h1 => wrap_i64' n h0 (by have : n < 2 ^ 63 := h1; omega)) 8 (x * 256) y (by omega) (by show x * 256 % 256 = 0; omega) (by show x * 256 < 9223372036854775808; omega) hy.1 (by show y < 256; omega) (by show y < 9223372036854775808; omega)

/-- The j-th of n bytes of v, the highest first. -/
def byteOf (v : Int) (n j : Nat) : Int := v / 2 ^ (8 * (n - 1 - j)) % 256
theorem byteOf_bd (v : Int) (n j : Nat) : 0 ≤ byteOf v n j ∧ byteOf v n j ≤ 255 := by unfold byteOf; omega

theorem Tryz.infoB : (Tryz.prog.info? 5).map (fun i => (i.zero, i.size, i.bytes)) = some (some (.int .u8 0), 1, 1) := by kernel_rfl
def bval (zs : List Int) : List Value := zs.map (Value.int .u8)
/-- A slice of bytes zs in memory of this call's own, from block B on. -/
def OwnB (w : World) (B : Nat) (v : Value) (zs : List Int) : Prop := w.ownsRow B 5 1 v zs.length (bval zs) ∧ ∀ z ∈ zs, 0 ≤ z ∧ z ≤ 255
theorem bval_get (zs : List Int) (j : Nat) (h : j < zs.length) : (bval zs)[j]? = some (.int .u8 (zs.getD j 0)) := by
  unfold bval; rw [List.getElem?_map, List.getElem?_eq_getElem h, List.getD_eq_getElem?_getD, List.getElem?_eq_getElem h]; rfl
theorem OwnB.arr {w : World} {B : Nat} {v : Value} {zs : List Int} (h : OwnB w B v zs) : ∃ a cap, v = .slice a zs.length cap ∧ Arr w a zs ∧ zs.length ≤ cap := by
  rcases h.1.2 with ⟨hv, hn⟩ | ⟨g, cap, cur, hv, hB, hg, hnc, hcm, hcs, htake⟩
  · have : zs = [] := List.length_eq_zero_iff.1 hn
    subst this
    exact ⟨none, 0, hv, ⟨by simp, fun j hj => by simp at hj⟩, Nat.le_refl _⟩
  · refine ⟨some ⟨g, 0, none⟩, cap, hv, ⟨h.2, fun j hj => ⟨g, 0, rfl, ?_, ?_⟩⟩, hnc⟩
    · by_cases hlt : g < w.heap.size
      · exact hlt
      · rw [Array.getElem?_eq_none (by omega)] at hg; cases hg
    · have hc := (hv ▸ h.1 : w.ownsRow B 5 1 (.slice (some ⟨g, 0, none⟩) zs.length cap) zs.length (bval zs)).cellAt j (by omega)
      rw [Nat.zero_add, hc, bval_get zs j hj]
theorem oneCells (zs : List Int) : ∀ u ∈ bval zs, u.oneCell' = true := by
  intro u hu
  unfold bval at hu
  obtain ⟨z, _, rfl⟩ := List.mem_map.1 hu
  rfl
theorem OwnB.app {w : World} {B : Nat} {v : Value} {xs ys : List Int} {n : Nat} (h : w.ownsRow B 5 1 v n (bval xs ++ bval ys)) (hn : n = xs.length + ys.length) (hx : ∀ z ∈ xs, 0 ≤ z ∧ z ≤ 255) (hy : ∀ z ∈ ys, 0 ≤ z ∧ z ≤ 255) : OwnB w B v (xs ++ ys) := by
  refine ⟨?_, fun z hz => ?_⟩
  · have e : bval (xs ++ ys) = bval xs ++ bval ys := by unfold bval; rw [List.map_append]
    rw [e, List.length_append, ← hn]; exact h
  · rcases List.mem_append.1 hz with h | h
    · exact hx z h
    · exact hy z h
theorem cell_one (w : World) (z : Int) (t : Nat) : ∀ j u, (bval [z])[j]? = some u → (w.alloc (.cells #[.int .u8 z] t)).cell? ((⟨w.heap.size, 0, none⟩ : Addr).add j) = some u := by
  intro j u hu
  match j with
  | 0 =>
    simp [bval] at hu
    subst hu
    rw [Addr.add_lit]
    exact cell_of_row _ w.heap.size 0 _ t (0, 0) (heap_alloc_new w _)
  | k + 1 => simp [bval] at hu
theorem OwnB.form {w : World} {B : Nat} {v : Value} {zs : List Int} (h : OwnB w B v zs) (hp : 0 < zs.length) : ∃ g cap, v = .slice (some ⟨g, 0, none⟩) zs.length cap ∧ B ≤ g ∧ g < w.heap.size := by
  rcases h.1.2 with ⟨_, hn⟩ | ⟨g, cap, cur, hv, hB, hg, _⟩
  · omega
  · refine ⟨g, cap, hv, hB, ?_⟩
    by_cases hlt : g < w.heap.size
    · exact hlt
    · rw [Array.getElem?_eq_none (by omega)] at hg; cases hg

/-- Where a source is being made: its place in the answer, and the source itself. -/
def Made (w w2 : World) (t : Nat) (a : Option Addr) (n cap : Nat) : Prop :=
  Below w.heap.size w w2 ∧ w.heap.size + 1 < w2.heap.size ∧ w2.heap[w.heap.size]? = some (.cells #[.slice none 0 0, .int .i64 0, .int .u64 0] t) ∧
    ∃ st : Int, 0 ≤ st ∧ st ≤ 18446744073709551615 ∧ w2.heap[w.heap.size + 1]? = some (.cells #[.slice a n cap, .int .i64 0, .int .u64 st] t)
theorem made_start (w : World) (t : Nat) (a : Option Addr) (n cap : Nat) (st : Int) (h0 : 0 ≤ st) (h1 : st ≤ 18446744073709551615) :
    Made w ((w.alloc (.cells #[.slice none 0 0, .int .i64 0, .int .u64 0] t)).alloc (.cells #[.slice a n cap, .int .i64 0, .int .u64 st] t)) t a n cap := by
  refine ⟨((Below.refl _ _).alloc (Nat.le_refl _) _).alloc (by rw [World.size_alloc]; omega) _, by rw [World.size_alloc, World.size_alloc]; omega, ?_, st, h0, h1, ?_⟩
  · rw [Below.heap_alloc _ _ w.heap.size (by rw [World.size_alloc]; omega)]; exact heap_alloc_new w _
  · have h := heap_alloc_new (w.alloc (.cells #[.slice none 0 0, .int .i64 0, .int .u64 0] t)) (.cells #[.slice a n cap, .int .i64 0, .int .u64 st] t)
    rw [World.size_alloc] at h; exact h
theorem made_set {w w2 : World} {t : Nat} {a : Option Addr} {n cap : Nat} (h : Made w w2 t a n cap) (s : Int) (h0 : 0 ≤ s) (h1 : s ≤ 18446744073709551615) :
    Made w (w2.setCell ⟨w.heap.size + 1, 2, none⟩ (.int .u64 s)).drew t a n cap := by
  obtain ⟨hb, hz, hr, st, _, _, hg⟩ := h
  refine ⟨(hb.setCell (p := ⟨w.heap.size + 1, 2, none⟩) (by show w.heap.size ≤ w.heap.size + 1; omega) _).drew, ?_, ?_, s, h0, h1, ?_⟩
  · show _ < (w2.setCell _ _).heap.size
    simpa using hz
  · show (w2.setCell _ _).heap[w.heap.size]? = _
    rw [heap_setCell_other w2 ⟨w.heap.size + 1, 2, none⟩ w.heap.size _ (by simp)]; exact hr
  · exact heap_setCell_same w2 (w.heap.size + 1) 2 _ t _ hg

theorem OwnB.below {w w' : World} {B C : Nat} {v : Value} {zs : List Int} (h : OwnB w B v zs) (hb : Below C w w') (hC : ∀ k, v.ownBlock = some k → k < C) : OwnB w' B v zs := by
  refine ⟨⟨h.1.1, ?_⟩, h.2⟩
  rcases h.1.2 with h0 | ⟨g, cap, cur, hv, hB, hg, hrest⟩
  · exact .inl h0
  · exact .inr ⟨g, cap, cur, hv, hB, by rw [hb.block g (hC g (by rw [hv]; rfl))]; exact hg, hrest⟩
theorem OwnB.next {w w' : World} {B : Nat} {v : Value} {zs : List Int} (h : OwnB w B v zs) (hb : Below w.heap.size w w') : OwnB w' B v zs := h.below hb (fun k hk => (h.1.lt k hk).2)
theorem OwnB.mono {w : World} {B C : Nat} {v : Value} {zs : List Int} (h : OwnB w B v zs) (hC : C ≤ B) : OwnB w C v zs := by
  refine ⟨⟨h.1.1, ?_⟩, h.2⟩
  rcases h.1.2 with h0 | ⟨g, cap, cur, hv, hB, hg, hrest⟩
  · exact .inl h0
  · exact .inr ⟨g, cap, cur, hv, by omega, hg, hrest⟩
theorem OwnB.setBelow {w : World} {B : Nat} {v : Value} {zs : List Int} (h : OwnB w B v zs) {a : Addr} (ha : a.block < B) (u : Value) : OwnB (w.setCell a u) B v zs := ⟨ownsRow_setCell_below h.1 ha u, h.2⟩
theorem OwnB.drew {w : World} {B : Nat} {v : Value} {zs : List Int} (h : OwnB w B v zs) : OwnB w.drew B v zs := ⟨h.1.drew, h.2⟩

theorem bval_set (zs : List Int) (i : Nat) (z : Int) : bval (zs.set i z) = (bval zs).set i (.int .u8 z) := by unfold bval; rw [List.map_set]
theorem OwnB.store {w : World} {B g cap n : Nat} {zs : List Int} (h : OwnB w B (.slice (some ⟨g, 0, none⟩) n cap) zs) (hn : zs.length = n) (i : Nat) (z : Int) (h0 : 0 ≤ z) (h1 : z ≤ 255) : OwnB (w.setCell ⟨g, i, none⟩ (.int .u8 z)) B (.slice (some ⟨g, 0, none⟩) n cap) (zs.set i z) ∧ w.grownBy (w.setCell ⟨g, i, none⟩ (.int .u8 z)) (some g) := by
  subst hn
  have hs := h.1.stored i (.int .u8 z)
  refine ⟨⟨?_, ?_⟩, hs.2⟩
  · rw [bval_set, List.length_set]; exact hs.1
  · intro y hy
    rcases List.mem_or_eq_of_mem_set hy with hy | hy
    · exact h.2 y hy
    · subst hy; exact ⟨h0, h1⟩
attribute [local go_sem] and_1_i64
set_option maxHeartbeats 1000000 in
theorem l01Copy_walk (a : Option Addr) (n cap : Nat) (zs : List Int) (w : World) (hn : zs.length = n) (ha : Arr w a zs) (hm : n ≤ 2097152) :
    Calls Tryz.prog 82 #[.slice a n cap] w fun e w' => ∃ v : Value, e = .returned v ∧ OwnB w' w.heap.size v zs ∧ Below w.heap.size w w' := by
  obtain ⟨i, hi, hz0, hz1, hz2⟩ := info_parts Tryz.infoB
  have HN := hide hn
  have HA := hide ha
  clear hn ha
  have hst : OwnB (w.alloc (.cells #[] 5)) w.heap.size (.slice (some ⟨w.heap.size, 0, none⟩) 0 0) [] :=
    ⟨World.ownsRow_lit (base := w.heap.size) (e := 5) (size := 1) w #[] 0 (Nat.le_refl _) (by decide) rfl, by simp⟩
  have HST := hide hst
  have hb0 := (Below.refl w.heap.size w).alloc (Nat.le_refl _) (.cells #[] 5)
  clear hst
  go_enter Tryz.func82, Tryz.ntmps82
  go_wp2_with fail
  generalize w.alloc (.cells #[] 5) = W at *
  go_loopw [3, 4] (fun o t w2 => ∃ k : Nat, k ≤ n ∧ t = .int .i64 k ∧ Hid (OwnB w2 w.heap.size o (zs.take k)) ∧ Below w.heap.size w w2) (fun _ t _ => n - (intOf t).toNat)
  case atStart => exact ⟨0, Nat.zero_le _, rfl, HST, hb0⟩
  case round =>
    obtain ⟨k, hk, rfl, HO, hb⟩ := hrel
    clear hb0
    by_cases hlt : k < n
    · have hkz : k < zs.length := by rw [HN.out]; exact hlt
      obtain ⟨b, off, rfl, hbs, hc⟩ := HA.out.2 k hkz
      have hc2 : wr.cell? ⟨b, off + k, none⟩ = some (.int .u8 (zs.getD k 0)) := by rw [hb.cell (p := ⟨b, off + k, none⟩) hbs]; exact hc
      have hzb := getD_bd HA.out.1 k
      have HT : Hid (zs.take (k + 1) = zs.take k ++ [zs.getD k 0]) := hide (by rw [List.take_succ_eq_append_getElem hkz, List.getD_eq_getElem?_getD, List.getElem?_eq_getElem hkz]; rfl)
      have hl : (zs.take k).length = k := by rw [List.length_take]; omega
      have HL := hide hl
      clear hc hl
      generalize zs.getD k 0 = z at *
      go_wp2_with (first | (at_builtin; refine wpList_append_own _ rfl _ _ 22 rfl w.heap.size 5 i _ 1 1 Tryz.underlying22 hi hz0 hz1 hz2 rfl (by decide) u3 (zs.take k).length (bval (zs.take k)) rfl (HO.out.1.alloc _) ⟨wr.heap.size, 0, none⟩ 1 1 (bval [_]) rfl rfl (cell_one _ _ _) (oneCells _) (by have := HL.out; unfold maxLen; omega) (by have := HL.out; omega) (by have := hb.size; rw [World.size_alloc]; omega) ?_))
      intro v' w3 hown' hgrow hnil
      have hlo := HO.out.1.lt
      have HO3 := hide (OwnB.app hown' (by simp) HO.out.2 (by intro y hy; simp at hy; subst hy; omega))
      have hb3 : Below w.heap.size w w3 := (hb.alloc hb.size _).grown hgrow (by have := hb.size; rw [World.size_alloc]; omega) (fun k hk => (hlo k hk).1)
      clear hown' hnil hgrow hb hlo
      go_wp2_with fail
      exact ⟨⟨k + 1, by omega, by go_num, hide (by rw [HT.out]; exact HO3.out), hb3⟩, by simp [intOf]; omega⟩
    · have hk' : k = n := by omega
      subst hk'
      have HT : Hid (zs.take k = zs) := hide (List.take_of_length_le (by rw [HN.out]; exact Nat.le_refl _))
      go_wp2_with fail
      go_ret
      exact ⟨u3, rfl, by rw [← HT.out]; exact HO.out, hb⟩

set_option maxHeartbeats 1000000 in
theorem l01Join_walk (a c : Option Addr) (m n cap1 cap2 : Nat) (xs zs : List Int) (w : World) (hx : xs.length = m) (hn : zs.length = n) (hax : Arr w a xs) (ha : Arr w c zs) (hm : m ≤ 1048576) (hm2 : n ≤ 1048576) :
    Calls Tryz.prog 58 #[.slice a m cap1, .slice c n cap2] w fun e w' => ∃ v : Value, e = .returned v ∧ OwnB w' w.heap.size v (xs ++ zs) ∧ Below w.heap.size w w' := by
  obtain ⟨i, hi, hz0, hz1, hz2⟩ := info_parts Tryz.infoB
  have HX := hide hx
  have HN := hide hn
  have HAX := hide hax
  have HA := hide ha
  clear hn ha hx hax
  go_enter Tryz.func58, Tryz.ntmps58
  go_wp2_with fail
  refine (l01Copy_walk a m cap1 xs w HX.out HAX.out (by omega)).mono ?_
  rintro e w1 ⟨v1, rfl, hO1, hb1⟩
  have HO1 := hide hO1
  clear hO1
  go_wp2_with fail
  go_loopw [5, 6] (fun o t w2 => ∃ k : Nat, k ≤ n ∧ t = .int .i64 k ∧ Hid (OwnB w2 w.heap.size o (xs ++ zs.take k)) ∧ Below w.heap.size w w2) (fun _ t _ => n - (intOf t).toNat)
  case atStart => exact ⟨0, Nat.zero_le _, rfl, hide (by rw [List.take_zero, List.append_nil]; exact HO1.out), hb1⟩
  case round =>
    obtain ⟨k, hk, rfl, HO, hb⟩ := hrel
    clear hb1 HO1
    by_cases hlt : k < n
    · have hkz : k < zs.length := by rw [HN.out]; exact hlt
      obtain ⟨b, off, rfl, hbs, hc⟩ := HA.out.2 k hkz
      have hc2 : wr.cell? ⟨b, off + k, none⟩ = some (.int .u8 (zs.getD k 0)) := by rw [hb.cell (p := ⟨b, off + k, none⟩) hbs]; exact hc
      have hzb := getD_bd HA.out.1 k
      have HT : Hid (xs ++ zs.take (k + 1) = (xs ++ zs.take k) ++ [zs.getD k 0]) := hide (by rw [List.take_succ_eq_append_getElem hkz, List.getD_eq_getElem?_getD, List.getElem?_eq_getElem hkz, List.append_assoc]; rfl)
      have hl : (xs ++ zs.take k).length = m + k := by rw [List.length_append, List.length_take, HX.out]; omega
      have HL := hide hl
      clear hc hl
      generalize zs.getD k 0 = z at *
      go_wp2_with (first | (at_builtin; refine wpList_append_own _ rfl _ _ 22 rfl w.heap.size 5 i _ 1 1 Tryz.underlying22 hi hz0 hz1 hz2 rfl (by decide) u5 (xs ++ zs.take k).length (bval (xs ++ zs.take k)) rfl (HO.out.1.alloc _) ⟨wr.heap.size, 0, none⟩ 1 1 (bval [_]) rfl rfl (cell_one _ _ _) (oneCells _) (by have := HL.out; unfold maxLen; omega) (by have := HL.out; omega) (by have := hb.size; rw [World.size_alloc]; omega) ?_))
      intro v' w3 hown' hgrow hnil
      have hlo := HO.out.1.lt
      have HO3 := hide (OwnB.app hown' (by simp) HO.out.2 (by intro y hy; simp at hy; subst hy; omega))
      have hb3 : Below w.heap.size w w3 := (hb.alloc hb.size _).grown hgrow (by have := hb.size; rw [World.size_alloc]; omega) (fun k hk => (hlo k hk).1)
      clear hown' hnil hgrow hb hlo
      go_wp2_with fail
      exact ⟨⟨k + 1, by omega, by go_num, hide (by rw [HT.out]; exact HO3.out), hb3⟩, by simp [intOf]; omega⟩
    · have hk' : k = n := by omega
      subst hk'
      have HT : Hid (zs.take k = zs) := hide (List.take_of_length_le (by rw [HN.out]; exact Nat.le_refl _))
      go_wp2_with fail
      go_ret
      exact ⟨u5, rfl, by have h := HO.out; rw [HT.out] at h; exact h, hb⟩

/-- A number in so many bytes, the high one first. -/
def putL (v : Int) (k : Nat) : List Int := (List.range k).map (byteOf v k)
def putP (v : Int) (k j : Nat) : List Int := (List.range j).map (byteOf v k)
theorem putP_succ (v : Int) (k j : Nat) : putP v k (j + 1) = putP v k j ++ [byteOf v k j] := by unfold putP; rw [List.range_succ, List.map_append]; rfl
theorem putP_len (v : Int) (k j : Nat) : (putP v k j).length = j := by unfold putP; simp
theorem putL_len (v : Int) (k : Nat) : (putL v k).length = k := by unfold putL; simp
theorem putL_bd (v : Int) (k : Nat) : ∀ z ∈ putL v k, 0 ≤ z ∧ z ≤ 255 := by
  intro z hz
  obtain ⟨i, _, rfl⟩ := List.mem_map.1 hz
  exact byteOf_bd v k i
set_option maxHeartbeats 1000000 in
theorem l03Put_walk (v : Int) (width : Nat) (w : World) (hv : 0 ≤ v) (hw : width ≤ 8) :
    Calls Tryz.prog 60 #[.int .i64 v, .int .i64 (width : Int)] w fun e w' => ∃ u : Value, e = .returned u ∧ OwnB w' w.heap.size u (putL v width) ∧ Below w.heap.size w w' := by
  obtain ⟨i, hi, hz0, hz1, hz2⟩ := info_parts Tryz.infoB
  have hst : OwnB (w.alloc (.cells #[] 5)) w.heap.size (.slice (some ⟨w.heap.size, 0, none⟩) 0 0) [] :=
    ⟨World.ownsRow_lit (base := w.heap.size) (e := 5) (size := 1) w #[] 0 (Nat.le_refl _) (by decide) rfl, by simp⟩
  have HST := hide hst
  have hb0 := (Below.refl w.heap.size w).alloc (Nat.le_refl _) (.cells #[] 5)
  clear hst
  go_enter Tryz.func60, Tryz.ntmps60
  go_wp2_with fail
  generalize w.alloc (.cells #[] 5) = W at *
  go_loopw [5, 6] (fun o t w2 => ∃ j : Nat, j ≤ width ∧ t = .int .i64 ((width : Int) - 1 - (j : Int)) ∧ Hid (OwnB w2 w.heap.size o (putP v width j)) ∧ Below w.heap.size w w2) (fun _ t _ => (intOf t + 1).toNat)
  case atStart => exact ⟨0, Nat.zero_le _, by go_num, HST, hb0⟩
  case round =>
    obtain ⟨j, hj, rfl, HO, hb⟩ := hrel
    clear hb0
    by_cases hlt : j < width
    · have HT := hide (putP_succ v width j)
      have HL := hide (putP_len v width j)
      have hbd := byteOf_bd v width j
      have HE : Hid (v / 2 ^ (8 * (width - 1 - j)) % 256 = byteOf v width j) := hide rfl
      go_wp2_with (first | (at_builtin; refine wpList_append_own _ rfl _ _ 22 rfl w.heap.size 5 i _ 1 1 Tryz.underlying22 hi hz0 hz1 hz2 rfl (by decide) u5 (putP v width j).length (bval (putP v width j)) rfl (HO.out.1.alloc _) ⟨wr.heap.size, 0, none⟩ 1 1 (bval [_]) rfl rfl (cell_one _ _ _) (oneCells _) (by have := HL.out; unfold maxLen; omega) (by have := HL.out; omega) (by have := hb.size; rw [World.size_alloc]; omega) ?_))
      intro v' w3 hown' hgrow hnil
      have hlo := HO.out.1.lt
      have HO3 := hide (OwnB.app hown' rfl HO.out.2 (by intro y hy; simp at hy; subst hy; exact hbd))
      have hb3 : Below w.heap.size w w3 := (hb.alloc hb.size _).grown hgrow (by have := hb.size; rw [World.size_alloc]; omega) (fun k hk => (hlo k hk).1)
      clear hown' hnil hgrow hb hlo
      go_wp2_with fail
      exact ⟨⟨j + 1, by omega, by go_num, hide (by rw [HT.out]; exact HO3.out), hb3⟩, by simp [intOf]; omega⟩
    · have hj' : j = width := by omega
      subst hj'
      go_wp2_with fail
      go_ret
      exact ⟨u5, rfl, HO.out, hb⟩

/-- Bytes as a text. -/
def strB (zs : List Int) : ByteArray := bs (zs.map (fun z => UInt8.ofNat z.toNat))
theorem byte_back {z : Int} (h0 : 0 ≤ z) (h1 : z ≤ 255) : ((UInt8.ofNat z.toNat).toNat : Int) = z := by rw [UInt8.toNat_ofNat']; omega
theorem conv_str (a : Option Addr) (n cap : Nat) (zs : List Int) (w : World) (hn : zs.length = n) (h : Arr w a zs) : (convert 22 9 (.slice a n cap)).run Tryz.prog w = .ok (.string (strB zs)) w := by
  cases a with
  | none =>
    have h0 : zs = [] := by
      cases zs with
      | nil => rfl
      | cons z zs => obtain ⟨b, off, e, _⟩ := h.2 0 (by simp); cases e
    subst h0
    exact run_convert_bytes_nil (P := Tryz.prog) w 22 5 Tryz.underlying22 Tryz.underlying5 n cap 9 Tryz.underlying9
  | some p =>
    have hl : (zs.map (fun z => UInt8.ofNat z.toNat)).length = n := by rw [List.length_map, hn]
    have hh := run_convert_bytes_back (P := Tryz.prog) w 22 9 5 p cap (zs.map (fun z => UInt8.ofNat z.toNat)) Tryz.underlying22 Tryz.underlying5 Tryz.underlying9 (fun j hj => by
      rw [List.length_map] at hj
      obtain ⟨b, off, e, _, hc⟩ := h.2 j hj
      cases e
      rw [Addr.add_lit, hc, List.getElem_map, List.getD_eq_getElem?_getD, List.getElem?_eq_getElem hj]
      have hb := h.1 zs[j] (List.getElem_mem hj)
      rw [byte_back hb.1 hb.2]; rfl)
    rw [hl] at hh
    exact hh
theorem In_yes (n a b : Int) (w : World) (h : a ≤ n ∧ n ≤ b) :
    Calls Tryz.prog 19 #[.int .i64 n, .int .i64 a, .int .i64 b] w fun e w' => e = .returned (.bool true) ∧ w' = w := by
  obtain ⟨h1, h2⟩ := h
  go_enter Tryz.func19, Tryz.ntmps19
  go_wp2
  go_ret
  exact ⟨rfl, rfl⟩
theorem In_no (n a b : Int) (w : World) (h : ¬ (a ≤ n ∧ n ≤ b)) :
    Calls Tryz.prog 19 #[.int .i64 n, .int .i64 a, .int .i64 b] w fun e w' => e = .returned (.bool false) ∧ w' = w := by
  by_cases h1 : a ≤ n
  · have h2 : ¬ n ≤ b := fun h2 => h ⟨h1, h2⟩
    clear h
    go_enter Tryz.func19, Tryz.ntmps19
    go_wp2
    go_ret
    exact ⟨rfl, rfl⟩
  · clear h
    go_enter Tryz.func19, Tryz.ntmps19
    go_wp2
    go_ret
    exact ⟨rfl, rfl⟩

/-- It is an address. -/
def adrB (a : Int) : Bool := decide (0 ≤ a ∧ a ≤ 4294967295)
theorem adrB_iff {a : Int} : adrB a = true ↔ 0 ≤ a ∧ a ≤ 4294967295 := by unfold adrB; simp

theorem specAddrOK_walk (a : Int) (w : World) :
    Calls Tryz.prog 18 #[.int .i64 a] w fun e w' => e = .returned (.bool (adrB a)) ∧ w' = w := by
  by_cases h : 0 ≤ a ∧ a ≤ 4294967295
  · have e := hide (adrB_iff.2 h)
    go_enter Tryz.func18, Tryz.ntmps18
    go_wp2_with (go_at_call 19; refine (In_yes _ _ _ _ h).mono ?_; rintro e w' ⟨rfl, rfl⟩)
    go_ret
    exact ⟨ret_bool e.out.symm, rfl⟩
  · have e : Hid (adrB a = false) := hide (by unfold adrB; simpa using h)
    go_enter Tryz.func18, Tryz.ntmps18
    go_wp2_with (go_at_call 19; refine (In_no _ _ _ _ h).mono ?_; rintro e w' ⟨rfl, rfl⟩)
    go_ret
    exact ⟨ret_bool e.out.symm, rfl⟩

theorem four_cells {w : World} {g t : Nat} {x y z u : Value} (h : w.heap[g]? = some (.cells #[x, y, z, u] t)) : w.cell? ⟨g, 0, none⟩ = some x ∧ w.cell? ⟨g, 1, none⟩ = some y ∧ w.cell? ⟨g, 2, none⟩ = some z ∧ w.cell? ⟨g, 3, none⟩ = some u ∧ ∀ o, w.frozen? ⟨g, o, none⟩ = false :=
  ⟨cell_of_row w g 0 _ _ _ h, cell_of_row w g 1 _ _ _ h, cell_of_row w g 2 _ _ _ h, cell_of_row w g 3 _ _ _ h, fun o => frozen_of_row w g o _ _ h⟩
theorem own_slice {w : World} {B : Nat} {v : Value} {zs : List Int} (h : OwnB w B v zs) : ∃ a cap, v = .slice a zs.length cap ∧ Arr w a zs := by
  obtain ⟨a, cap, hv, ha, _⟩ := h.arr
  exact ⟨a, cap, hv, ha⟩
theorem l01Join_own (u v : Value) (B C : Nat) (xs ys : List Int) (w : World) (hx : OwnB w B u xs) (hy : OwnB w C v ys) (hm : xs.length ≤ 1048576) (hm2 : ys.length ≤ 1048576) :
    Calls Tryz.prog 58 #[u, v] w fun e w' => ∃ r : Value, e = .returned r ∧ OwnB w' w.heap.size r (xs ++ ys) ∧ Below w.heap.size w w' := by
  obtain ⟨a, c1, rfl, ha⟩ := own_slice hx
  obtain ⟨b, c2, rfl, hb⟩ := own_slice hy
  exact l01Join_walk a b _ _ c1 c2 xs ys w rfl rfl ha hb hm hm2
/-- The frame's box is as it was laid. -/
abbrev BoxF (w0 w : World) (d s t : Int) (v : Value) : Prop := Below w0.heap.size w0 w ∧ w0.heap.size < w.heap.size ∧ w.cell? ⟨w0.heap.size, 0, none⟩ = some (.int .i64 d) ∧ w.cell? ⟨w0.heap.size, 1, none⟩ = some (.int .i64 s) ∧ w.cell? ⟨w0.heap.size, 2, none⟩ = some (.int .i64 t) ∧ w.cell? ⟨w0.heap.size, 3, none⟩ = some v
theorem BoxF.size {w0 w : World} {d s t : Int} {v : Value} (h : BoxF w0 w d s t v) : w0.heap.size ≤ w.heap.size := h.1.size
theorem l01Join_from (u v : Value) (B C M : Nat) (xs ys : List Int) (w : World) (hM : M ≤ w.heap.size) (hx : OwnB w B u xs) (hy : OwnB w C v ys) (hm : xs.length ≤ 1048576) (hm2 : ys.length ≤ 1048576) :
    Calls Tryz.prog 58 #[u, v] w fun e w' => ∃ r : Value, e = .returned r ∧ OwnB w' M r (xs ++ ys) ∧ Below w.heap.size w w' := by
  refine (l01Join_own u v B C xs ys w hx hy hm hm2).mono ?_
  rintro e w' ⟨r, rfl, hO, hb⟩
  exact ⟨r, rfl, hO.mono hM, hb⟩
theorem l01Join_arr (u : Value) (a : Option Addr) (n cap B M : Nat) (xs ys : List Int) (w : World) (hM : M ≤ w.heap.size) (hx : OwnB w B u xs) (hn : ys.length = n) (hy : Arr w a ys) (hm : xs.length ≤ 1048576) (hm2 : n ≤ 1048576) :
    Calls Tryz.prog 58 #[u, .slice a n cap] w fun e w' => ∃ r : Value, e = .returned r ∧ OwnB w' M r (xs ++ ys) ∧ Below w.heap.size w w' := by
  obtain ⟨b, c1, rfl, hb⟩ := own_slice hx
  refine (l01Join_walk b a _ n c1 cap xs ys w rfl hn hb hy hm hm2).mono ?_
  rintro e w' ⟨r, rfl, hO, hb⟩
  exact ⟨r, rfl, hO.mono hM, hb⟩
theorem put2_walk (v : Int) (w : World) (hv : 0 ≤ v) :
    Calls Tryz.prog 60 #[.int .i64 v, .int .i64 2] w fun e w' => ∃ u : Value, e = .returned u ∧ OwnB w' w.heap.size u (putL v 2) ∧ Below w.heap.size w w' := l03Put_walk v 2 w hv (by omega)
theorem Arr.take {w : World} {a : Option Addr} {zs : List Int} (h : Arr w a zs) (k : Nat) : Arr w a (zs.take k) := by
  refine ⟨fun z hz => h.1 z (List.mem_of_mem_take hz), fun j hj => ?_⟩
  rw [List.length_take] at hj
  obtain ⟨b, off, e, hb, hc⟩ := h.2 j (by omega)
  refine ⟨b, off, e, hb, ?_⟩
  rw [hc, List.getD_eq_getElem?_getD, List.getD_eq_getElem?_getD, List.getElem?_take_of_lt (by omega)]
theorem Arr.drop {w : World} {b off : Nat} {zs : List Int} (h : Arr w (some ⟨b, off, none⟩) zs) (k : Nat) : Arr w (some ⟨b, off + k, none⟩) (zs.drop k) := by
  refine ⟨fun z hz => h.1 z (List.mem_of_mem_drop hz), fun j hj => ?_⟩
  rw [List.length_drop] at hj
  obtain ⟨b', off', e, hb, hc⟩ := h.2 (k + j) (by omega)
  cases e
  refine ⟨b, off + k, rfl, hb, ?_⟩
  rw [Nat.add_assoc, hc, List.getD_eq_getElem?_getD, List.getD_eq_getElem?_getD, List.getElem?_drop]
theorem sl_to (b off n cap h : Nat) (hh : h ≤ cap) (hc : 0 < cap) (w : World) : (Instr.slice 22 (.slice (some ⟨b, off, none⟩) n cap) none (some (.int .i64 (h : Int))) none).run Tryz.prog w = .ok (.slice (some ⟨b, off, none⟩) h cap) w := by
  have hs : (sizeOf (Tryz.prog.elem 22)).run Tryz.prog w = .ok 1 w := Tryz.sizeOf5 w
  have he := run_slice_h (P := Tryz.prog) (w := w) 22 (some ⟨b, off, none⟩) n cap Tryz.underlying22 .i64 (h : Int) (by omega) (by omega)
  rw [he, hs]
  simp [sliced, Result.andThen, Addr.add_lit]
theorem own_arr {w : World} {B n cap : Nat} {a : Option Addr} {zs : List Int} (h : OwnB w B (.slice a n cap) zs) : Arr w a zs ∧ zs.length = n := by
  obtain ⟨a', c, e, ha⟩ := own_slice h
  simp only [Value.slice.injEq] at e
  obtain ⟨rfl, rfl, _⟩ := e
  exact ⟨ha, rfl⟩
end
set_option maxRecDepth 100000
/-- package errors' variable holds the handle of the type 'error'. -/
def ErrT (w : World) : Prop := 0 < w.heap.size ∧ w.cell? ⟨0, 0, none⟩ = some (.iface 141 (.agg #[.pointer (some ⟨1, 63, none⟩)]))
theorem ErrT.below {B : Nat} {w w' : World} (h : ErrT w) (hb : Below B w w') (hB : w.heap.size ≤ B) : ErrT w' :=
  ⟨by have := hb.size; have := h.1; omega, by rw [hb.cell (p := ⟨0, 0, none⟩) (Nat.lt_of_lt_of_le h.1 hB)]; exact h.2⟩
/-- errors.As of no error. -/
theorem as_nil (t : Value) (w : World) :
    Calls Tryz.prog 85 #[.nilIface, t] w fun e w' => e = .returned (.bool false) ∧ w' = w := by
  go_enter Tryz.func85, Tryz.ntmps85
  go_wp2
  go_ret
  exact ⟨rfl, rfl⟩
open Go.Extern.Stop Go.Stop Go.Extern
theorem Tryz.valueOfP (t : Addr) (w : World) : (ReflectliteValue.unpack (.iface 123 (.pointer (some t)))).run Tryz.prog w
    = .ok (.agg #[.pointer (some ⟨1, 123, none⟩), .pointer (some ⟨w.heap.size, 0, none⟩), .int .u64 150]) (w.alloc (.cells #[.pointer (some t)] 123)) := by kernel_rfl
theorem Tryz.typeP (a : Addr) (w : World) : (ReflectliteValue.methodAny (ReflectliteValue.valueError "reflectlite.Value.Type" 0) (fun t _ _ _ => ReflectliteType.toType t) #[.agg #[.pointer (some ⟨1, 123, none⟩), .pointer (some a), .int .u64 150]]).run Tryz.prog w
    = .ok (.iface 141 (.agg #[.pointer (some ⟨1, 123, none⟩)])) w := by kernel_rfl
theorem Tryz.methodKind (h : Value) (w : World) : (Go.method 283 141 (.agg #[h]) "Kind").run Tryz.prog w = .ok (108, h) w := by kernel_rfl
theorem Tryz.kindP (w : World) : ((ReflectliteType.abiMethod fun t => (fun a : Nat => Value.int IntKind.u8 (a : Int)) <$> Rtype.kind t) #[.pointer (some ⟨1, 123, none⟩)]).run Tryz.prog w = .ok (.int .u8 22) w := by kernel_rfl
theorem Tryz.kindV (w : World) : ((ReflectliteType.abiMethod fun t => (fun a : Nat => Value.int IntKind.u8 (a : Int)) <$> Rtype.kind t) #[.pointer (some ⟨1, 109, none⟩)]).run Tryz.prog w = .ok (.int .u8 25) w := by kernel_rfl
theorem rlm (z : Sem Value) (f : TypeId → Addr → Nat → Nat → Sem Value) (v : Value) :
    ReflectliteValue.method z f #[v] = (do match ← ReflectliteValue.parts v with | none => z | some (t, a, fl) => f t a fl (fl % 32)) := rfl
theorem Tryz.partsP (a : Addr) (w : World) : (ReflectliteValue.parts (.agg #[.pointer (some ⟨1, 123, none⟩), .pointer (some a), .int .u64 150])).run Tryz.prog w = .ok (some (123, a, 150)) w := by kernel_rfl
theorem Tryz.isNilP (a p : Addr) (W : World) (ha : W.cell? a = some (.pointer (some p))) :
    (ReflectliteValue.method (ReflectliteValue.valueError "reflectlite.Value.IsNil" 0) ReflectliteValue.isNil #[.agg #[.pointer (some ⟨1, 123, none⟩), .pointer (some a), .int .u64 150]]).run Tryz.prog W = .ok (.bool false) W := by
  rw [rlm]
  simp only [Sem.run_bind, Tryz.partsP, Result.andThen]
  simp [ReflectliteValue.isNil, loadVar, isAgg, underlying, Tryz.underlying123, ha, Result.andThen]
theorem Tryz.methodElem (h : Value) (w : World) : (Go.method 283 141 (.agg #[h]) "Elem").run Tryz.prog w = .ok (125, .agg #[h]) w := by kernel_rfl
theorem Tryz.methodImplements (h : Value) (w : World) : (Go.method 283 141 (.agg #[h]) "Implements").run Tryz.prog w = .ok (126, .agg #[h]) w := by kernel_rfl
theorem Tryz.methodAssignableTo (h : Value) (w : World) : (Go.method 283 141 (.agg #[h]) "AssignableTo").run Tryz.prog w = .ok (123, .agg #[h]) w := by kernel_rfl
theorem Tryz.elemP (w : World) : (ReflectliteType.method ReflectliteType.elem #[.agg #[.pointer (some ⟨1, 123, none⟩)]]).run Tryz.prog w = .ok (.iface 141 (.agg #[.pointer (some ⟨1, 109, none⟩)])) w := by kernel_rfl
theorem Tryz.implementsV (w : World) : (ReflectliteType.relation "Implements" ReflectliteType.implements_ #[.agg #[.pointer (some ⟨1, 109, none⟩)], .iface 141 (.agg #[.pointer (some ⟨1, 63, none⟩)])]).run Tryz.prog w = .ok (.bool true) w := by kernel_rfl
theorem Tryz.typeOfV (v : Value) (w : World) : (ReflectliteType.typeOf #[.iface 109 v]).run Tryz.prog w = .ok (.iface 141 (.agg #[.pointer (some ⟨1, 109, none⟩)])) w := by kernel_rfl
theorem Tryz.assignableV (w : World) : (ReflectliteType.relation "AssignableTo" ReflectliteType.assignableTo #[.agg #[.pointer (some ⟨1, 109, none⟩)], .iface 141 (.agg #[.pointer (some ⟨1, 109, none⟩)])]).run Tryz.prog w = .ok (.bool true) w := by kernel_rfl
theorem Tryz.valueOfV (c : Int) (w : World) : (ReflectliteValue.unpack (.iface 109 (.agg #[.int .i64 c]))).run Tryz.prog w
    = .ok (.agg #[.pointer (some ⟨1, 109, none⟩), .pointer (some ⟨w.heap.size, 0, none⟩), .int .u64 153]) (w.alloc (.cells #[.int .i64 c] 109)) := by kernel_rfl
theorem Tryz.elemOfP (w : World) : (Rtype.elem? 123).run Tryz.prog w = .ok (some 109) w := by kernel_rfl
theorem Tryz.mkV (p : Addr) (w : World) : (ReflectliteValue.mk 109 p ReflectliteValue.flagAddr).run Tryz.prog w = .ok (.agg #[.pointer (some ⟨1, 109, none⟩), .pointer (some p), .int .u64 409]) w := by kernel_rfl
theorem Tryz.elemVP (a p : Addr) (W : World) (ha : W.cell? a = some (.pointer (some p))) :
    (ReflectliteValue.method (ReflectliteValue.valueError "reflectlite.Value.Elem" 0) ReflectliteValue.elem #[.agg #[.pointer (some ⟨1, 123, none⟩), .pointer (some a), .int .u64 150]]).run Tryz.prog W
      = .ok (.agg #[.pointer (some ⟨1, 109, none⟩), .pointer (some p), .int .u64 409]) W := by
  rw [rlm]
  simp only [Sem.run_bind, Tryz.partsP, Result.andThen]
  simp [ReflectliteValue.elem, loadVar, isAgg, underlying, Tryz.underlying123, ha, Result.andThen, Tryz.elemOfP, Tryz.mkV]
theorem rls (v x : Value) : ReflectliteValue.set #[v, x] = (do
    let (some (dst, a, fl), some (src, b, _)) := (← ReflectliteValue.parts v, ← ReflectliteValue.parts x)
      | unsupported (.noEntry "extern/(internal/reflectlite.Value).Set.zeroValue")
    if fl / ReflectliteValue.flagAddr % 2 == 0 then unsupported (.noEntry "extern/(internal/reflectlite.Value).Set.unaddressable")
    let val ← loadVar src b
    if ← Rtype.directlyAssignable dst src then storeVar dst a val
    else if ← Rtype.implements dst src then
      if (← Rtype.kind src) == 20 then
        match val with
        | .nilIface => unsupported (.noEntry "extern/reflectlite: a nil value of one interface type handed on as a value of another")
        | _ => storeVar dst a val
      else storeVar dst a (.iface src val)
    else panicString ("reflectlite.Set: value of type " ++ (← Rtype.spelt src) ++ " is not assignable to type " ++ (← Rtype.spelt dst))
    pure (.tuple #[])) := rfl
theorem Tryz.partsVa (a : Addr) (w : World) : (ReflectliteValue.parts (.agg #[.pointer (some ⟨1, 109, none⟩), .pointer (some a), .int .u64 409])).run Tryz.prog w = .ok (some (109, a, 409)) w := by kernel_rfl
theorem Tryz.partsV (a : Addr) (w : World) : (ReflectliteValue.parts (.agg #[.pointer (some ⟨1, 109, none⟩), .pointer (some a), .int .u64 153])).run Tryz.prog w = .ok (some (109, a, 153)) w := by kernel_rfl
theorem Tryz.directV (w : World) : (Rtype.directlyAssignable 109 109).run Tryz.prog w = .ok true w := by kernel_rfl
theorem Tryz.loadV (g o : Nat) (c : Int) (W : World) (hb : W.cell? ⟨g, o, none⟩ = some (.int .i64 c)) : (loadVar 109 ⟨g, o, none⟩).run Tryz.prog W = .ok (.agg #[.int .i64 c]) W := by
  have h := run_loadCells_list (P := Tryz.prog) W ⟨g, o, none⟩ [.int .i64 c] (fun j v hj => by
    match j with
    | 0 => simp at hj; subst hj; rw [Addr.add_lit]; exact hb
    | k + 1 => simp at hj)
  simp only [List.length_singleton] at h
  unfold loadVar
  simp only [Sem.run_bind, isAgg, underlying, Result.andThen]
  simp [h, Result.andThen, Tryz.underlying109]
theorem Tryz.setV (ta : Addr) (g o : Nat) (c : Int) (old : Value) (W : World) (hb : W.cell? ⟨g, o, none⟩ = some (.int .i64 c)) (ht : W.cell? ta = some old) (hf : W.frozen? ta = false) :
    (ReflectliteValue.set #[.agg #[.pointer (some ⟨1, 109, none⟩), .pointer (some ta), .int .u64 409], .agg #[.pointer (some ⟨1, 109, none⟩), .pointer (some ⟨g, o, none⟩), .int .u64 153]]).run Tryz.prog W
      = .ok (.tuple #[]) (W.setCell ta (.int .i64 c)) := by
  rw [rls]
  simp only [Sem.run_bind, Tryz.partsVa, Tryz.partsV, Result.andThen]
  have hl := Tryz.loadV g o c W hb
  simp [ReflectliteValue.flagAddr, hl, Result.andThen, Tryz.directV, storeVar, Value.cells, storeCells, Addr.add]
  rw [run_store Tryz.prog W ta _ _ (by rfl)]
  simp [ht, hf]
set_option maxHeartbeats 4000000 in
theorem as_hit (c : Int) (t : Addr) (old : Value) (w : World) (hg : ErrT w) (ht0 : w.cell? t = some old) (hf0 : w.frozen? t = false) :
    Calls Tryz.prog 85 #[.iface 109 (.agg #[.int .i64 c]), .iface 123 (.pointer (some t))] w fun ev w' => ev = .returned (.bool true) ∧ w' = ((((w.alloc (.cells #[.pointer (some t)] 123)).alloc (.cells #[.pointer (some ⟨1, 123, none⟩), .pointer (some ⟨w.heap.size, 0, none⟩), .int .u64 150] 129)).alloc (.cells #[.pointer (some ⟨1, 123, none⟩), .pointer (some ⟨w.heap.size, 0, none⟩), .int .u64 150] 129)).alloc (.cells #[.int .i64 c] 109)).setCell t (.int .i64 c) := by
  have h6 := @run_callFunc_extern Tryz.prog 87 _ (fun args => ReflectliteValue.unpack (args.getD 0 (.tuple #[]))) Tryz.func87 (by kernel_rfl) (by kernel_rfl) (by kernel_rfl) (by kernel_rfl)
  have h7 := @run_callFunc_extern Tryz.prog 88 _ (ReflectliteValue.methodAny (ReflectliteValue.valueError "reflectlite.Value.Type" 0) (fun t _ _ _ => ReflectliteType.toType t)) Tryz.func88 (by kernel_rfl) (by kernel_rfl) (by kernel_rfl) (by kernel_rfl)
  have h8 := @run_callFunc_extern Tryz.prog 89 _ (ReflectliteValue.method (ReflectliteValue.valueError "reflectlite.Value.IsNil" 0) ReflectliteValue.isNil) Tryz.func89 (by kernel_rfl) (by kernel_rfl) (by kernel_rfl) (by kernel_rfl)
  have h27 := @run_callFunc_extern Tryz.prog 108 _ (ReflectliteType.abiMethod fun t => do pure (.int .u8 (← Rtype.kind t))) Tryz.func108 (by kernel_rfl) (by kernel_rfl) (by kernel_rfl) (by kernel_rfl)
  have h37 := @run_callFunc_extern Tryz.prog 125 _ (ReflectliteType.method ReflectliteType.elem) Tryz.func125 (by kernel_rfl) (by kernel_rfl) (by kernel_rfl) (by kernel_rfl)
  have h38 := @run_callFunc_extern Tryz.prog 126 _ (ReflectliteType.relation "Implements" ReflectliteType.implements_) Tryz.func126 (by kernel_rfl) (by kernel_rfl) (by kernel_rfl) (by kernel_rfl)
  have h10 := @run_callFunc_extern Tryz.prog 91 _ ReflectliteType.typeOf Tryz.func91 (by kernel_rfl) (by kernel_rfl) (by kernel_rfl) (by kernel_rfl)
  have h35 := @run_callFunc_extern Tryz.prog 123 _ (ReflectliteType.relation "AssignableTo" ReflectliteType.assignableTo) Tryz.func123 (by kernel_rfl) (by kernel_rfl) (by kernel_rfl) (by kernel_rfl)
  have h11 := @run_callFunc_extern Tryz.prog 92 _ (ReflectliteValue.method (ReflectliteValue.valueError "reflectlite.Value.Elem" 0) ReflectliteValue.elem) Tryz.func92 (by kernel_rfl) (by kernel_rfl) (by kernel_rfl) (by kernel_rfl)
  have h12 := @run_callFunc_extern Tryz.prog 93 _ ReflectliteValue.set Tryz.func93 (by kernel_rfl) (by kernel_rfl) (by kernel_rfl) (by kernel_rfl)
  have tO := Tryz.typeOfV
  have mA := Tryz.methodAssignableTo
  have a25 := Tryz.assignableV
  have v25 := Tryz.valueOfV
  have f6 := Tryz.valueOfP
  have f7 := Tryz.typeP
  have mK := Tryz.methodKind
  have mE := Tryz.methodElem
  have mI := Tryz.methodImplements
  have k27 := Tryz.kindP
  have k25 := Tryz.kindV
  have e27 := Tryz.elemP
  have i25 := Tryz.implementsV
  have n8 := Tryz.isNilP ⟨w.heap.size, 0, none⟩ t ((w.alloc (.cells #[.pointer (some t)] 123)).alloc (.cells #[.pointer (some ⟨1, 123, none⟩), .pointer (some ⟨w.heap.size, 0, none⟩), .int .u64 150] 129)) (by simp)
  obtain ⟨hlt, hgc⟩ := hg
  have hg2 : ((w.alloc (.cells #[.pointer (some t)] 123)).alloc (.cells #[.pointer (some ⟨1, 123, none⟩), .pointer (some ⟨w.heap.size, 0, none⟩), .int .u64 150] 129)).cell? ⟨0, 0, none⟩ = some (.iface 141 (.agg #[.pointer (some ⟨1, 63, none⟩)])) := by
    rw [World.cell?_alloc_lt _ _ ⟨0, 0, none⟩ (by first | (simp; done) | (simp; omega)), World.cell?_alloc_lt _ _ ⟨0, 0, none⟩ hlt]; exact hgc
  have htl : t.block < w.heap.size := by
    rcases Nat.lt_or_ge t.block w.heap.size with h | h
    · exact h
    · simp [World.cell?, Array.getElem?_eq_none h] at ht0
  have el := Tryz.elemVP ⟨w.heap.size, 0, none⟩ t (((w.alloc (.cells #[.pointer (some t)] 123)).alloc (.cells #[.pointer (some ⟨1, 123, none⟩), .pointer (some ⟨w.heap.size, 0, none⟩), .int .u64 150] 129)).alloc (.cells #[.pointer (some ⟨1, 123, none⟩), .pointer (some ⟨w.heap.size, 0, none⟩), .int .u64 150] 129)) (by rw [World.cell?_alloc_lt _ _ ⟨w.heap.size, 0, none⟩ (by simp; omega)]; simp)
  have st := Tryz.setV t (w.heap.size + 1 + 1 + 1) 0 c old ((((w.alloc (.cells #[.pointer (some t)] 123)).alloc (.cells #[.pointer (some ⟨1, 123, none⟩), .pointer (some ⟨w.heap.size, 0, none⟩), .int .u64 150] 129)).alloc (.cells #[.pointer (some ⟨1, 123, none⟩), .pointer (some ⟨w.heap.size, 0, none⟩), .int .u64 150] 129)).alloc (.cells #[.int .i64 c] 109))
    (by rw [World.cell?_alloc_at _ _ _ _ (by simp)]; rfl)
    (by rw [World.cell?_alloc_lt _ _ t (by simp; omega), World.cell?_alloc_lt _ _ t (by simp; omega), World.cell?_alloc_lt _ _ t (by simp; omega), World.cell?_alloc_lt _ _ t htl]; exact ht0)
    (by rw [World.frozen?_alloc_old _ _ t (by simp; omega), World.frozen?_alloc_old _ _ t (by simp; omega), World.frozen?_alloc_old _ _ t (by simp; omega), World.frozen?_alloc_old _ _ t (Nat.ne_of_lt htl)]; exact hf0)
  go_enter Tryz.func85, Tryz.ntmps85
  go_wp2
  refine wp_loop_rounds 1 ?_
  rw [rounds_succ]
  go_wp2
  go_ret
  exact ⟨rfl, rfl⟩
/-- The code of an error. -/
theorem codeOf_nil (w : World) :
    Calls Tryz.prog 73 #[.nilIface] w fun e w' => e = .returned (.int .i64 0) ∧ Below w.heap.size w w' := by
  have hb := (Below.refl w.heap.size w).alloc (Nat.le_refl _) (.cells #[.int .i64 0] 109)
  go_enter Tryz.func73, Tryz.ntmps73
  go_wp2_with (go_at_call 85; refine (as_nil _ _).mono ?_; rintro e w' ⟨rfl, rfl⟩)
  go_ret
  exact ⟨rfl, hb⟩
theorem four_allocs (W : World) (o1 o2 o3 o4 : Obj) : Below W.heap.size W ((((W.alloc o1).alloc o2).alloc o3).alloc o4) := by
  have s1 := World.size_alloc W o1
  have s2 := World.size_alloc (W.alloc o1) o2
  have s3 := World.size_alloc ((W.alloc o1).alloc o2) o3
  exact ((((Below.refl _ _).alloc (Nat.le_refl _) _).alloc (by omega) _).alloc (by omega) _).alloc (by omega) _
theorem codeOf_err (c : Int) (w : World) (hg : ErrT w) :
    Calls Tryz.prog 73 #[.iface 109 (.agg #[.int .i64 c])] w fun e w' => e = .returned (.int .i64 c) ∧ Below w.heap.size w w' := by
  have hb := (Below.refl w.heap.size w).alloc (Nat.le_refl _) (.cells #[.int .i64 0] 109)
  have CA := hide (as_hit c ⟨w.heap.size, 0, none⟩ (.int .i64 0) (w.alloc (.cells #[.int .i64 0] 109)) (hg.below hb (Nat.le_refl _)) (by simp) (by simp))
  clear hg
  go_enter Tryz.func73, Tryz.ntmps73
  go_wp2_with fail
  refine CA.out.mono ?_
  rintro e w1 ⟨rfl, hw1⟩
  have hr : (w.alloc (.cells #[.int .i64 0] 109)).heap[w.heap.size]? = some (.cells #[.int .i64 0] 109) := heap_alloc_new _ _
  obtain ⟨h1, h2⟩ : w1.cell? ⟨w.heap.size, 0, none⟩ = some (.int .i64 c) ∧ Below w.heap.size w w1 := by
    rw [hw1]
    constructor
    · exact cell_of_row _ w.heap.size 0 _ _ _ (heap_setCell_same _ w.heap.size 0 _ _ _ (((four_allocs _ _ _ _ _).block w.heap.size (by rw [World.size_alloc]; omega)).trans hr))
    · exact (hb.trans ((four_allocs _ _ _ _ _).mono hb.size)).setCell (p := ⟨w.heap.size, 0, none⟩) (Nat.le_refl _) _
  clear hw1 hr
  go_wp2_with fail
  go_ret
  exact ⟨rfl, h2⟩
set_option maxRecDepth 100000
theorem three_cells {w : World} {g t : Nat} {x y z : Value} (h : w.heap[g]? = some (.cells #[x, y, z] t)) : w.cell? ⟨g, 0, none⟩ = some x ∧ w.cell? ⟨g, 1, none⟩ = some y ∧ w.cell? ⟨g, 2, none⟩ = some z ∧ ∀ o, w.frozen? ⟨g, o, none⟩ = false :=
  ⟨cell_of_row w g 0 _ _ _ h, cell_of_row w g 1 _ _ _ h, cell_of_row w g 2 _ _ _ h, fun o => frozen_of_row w g o _ _ h⟩
/-- A cursor lies in block g: its bytes, its place, its error. -/
def Cur (w : World) (g : Nat) (bv : Value) (p : Nat) (ev : Value) : Prop := w.heap[g]? = some (.cells #[bv, .int .i64 (p : Int), ev] 65)
theorem Cur.lt {w : World} {g p : Nat} {bv ev : Value} (h : Cur w g bv p ev) : g < w.heap.size := (Array.getElem?_eq_some_iff.1 h).1
theorem Cur.cells {w : World} {g p : Nat} {bv ev : Value} (h : Cur w g bv p ev) : w.cell? ⟨g, 0, none⟩ = some bv ∧ w.cell? ⟨g, 1, none⟩ = some (.int .i64 (p : Int)) ∧ w.cell? ⟨g, 2, none⟩ = some ev ∧ ∀ o, w.frozen? ⟨g, o, none⟩ = false := three_cells h
theorem Cur.below {w w' : World} {g p B : Nat} {bv ev : Value} (h : Cur w g bv p ev) (hb : Below B w w') (hB : g < B) : Cur w' g bv p ev := (hb.block g hB).trans h
theorem Cur.kept {w w' : World} {g p : Nat} {bv ev : Value} {row : Option Nat} (h : Cur w g bv p ev) (hg : w.grownBy w' row) (hne : some g ≠ row) : Cur w' g bv p ev := (hg.block g h.lt hne).trans h
theorem Cur.err {w : World} {g p : Nat} {bv ev : Value} (h : Cur w g bv p ev) (u : Value) : Cur (w.setCell ⟨g, 2, none⟩ u) g bv p u := heap_setCell_same w g 2 _ _ u h
theorem Cur.place {w : World} {g p : Nat} {bv ev : Value} (h : Cur w g bv p ev) (q : Nat) : Cur (w.setCell ⟨g, 1, none⟩ (.int .i64 (q : Int))) g bv q ev := heap_setCell_same w g 1 _ _ _ h
theorem Cur.bytes {w : World} {g p : Nat} {bv ev : Value} (h : Cur w g bv p ev) (u : Value) : Cur (w.setCell ⟨g, 0, none⟩ u) g u p ev := heap_setCell_same w g 0 _ _ u h
theorem grown_cell (w : World) (g i : Nat) (u : Value) : w.grownBy (w.setCell ⟨g, i, none⟩ u) (some g) :=
  ⟨rfl, rfl, rfl, by simp, fun k _ hk => heap_setCell_other w ⟨g, i, none⟩ k u (fun e => hk (by rw [e]))⟩
theorem grown_under {w w' : World} {g B : Nat} (h : w.grownBy w' (some g)) (hB : B ≤ g) (hs : B ≤ w.heap.size) : Below B w w' :=
  ⟨h.os, h.tape, h.output, h.size, fun k hk => h.block k (by omega) (fun e => by cases e; omega)⟩
/-- The error that a cursor remembers. -/
abbrev wErr (code : Int) : Value := .iface 109 (.agg #[.int .i64 code])
theorem demand_err (g p : Nat) (bv : Value) (c : Int) (h : Bool) (code : Int) (w : World) (hc : Cur w g bv p (wErr c)) :
    Calls Tryz.prog 31 #[.pointer (some ⟨g, 0, none⟩), .bool h, .int .i64 code] w fun e w' => e = .returned (.tuple #[]) ∧ w' = w := by
  obtain ⟨c0, c1, c2, cf⟩ := hc.cells
  clear hc
  go_enter Tryz.func31, Tryz.ntmps31
  go_wp2
  go_end0
  exact ⟨rfl, rfl⟩
theorem demand_yes (g p : Nat) (bv : Value) (code : Int) (w : World) (hc : Cur w g bv p .nilIface) :
    Calls Tryz.prog 31 #[.pointer (some ⟨g, 0, none⟩), .bool true, .int .i64 code] w fun e w' => e = .returned (.tuple #[]) ∧ w' = w := by
  obtain ⟨c0, c1, c2, cf⟩ := hc.cells
  clear hc
  go_enter Tryz.func31, Tryz.ntmps31
  go_wp2
  go_end0
  exact ⟨rfl, rfl⟩
theorem demand_no (g p : Nat) (bv : Value) (code : Int) (w : World) (hc : Cur w g bv p .nilIface) :
    Calls Tryz.prog 31 #[.pointer (some ⟨g, 0, none⟩), .bool false, .int .i64 code] w fun e w' => e = .returned (.tuple #[]) ∧ Cur w' g bv p (wErr code) ∧ w.grownBy w' (some g) := by
  obtain ⟨c0, c1, c2, cf⟩ := hc.cells
  have HC := hide hc
  clear hc
  go_enter Tryz.func31, Tryz.ntmps31
  go_wp2
  go_end0
  exact ⟨rfl, HC.out.err _, grown_cell _ _ _ _⟩
theorem left_walk (g p n cap : Nat) (a : Option Addr) (ev : Value) (w : World) (hc : Cur w g (.slice a n cap) p ev) (hn : n ≤ 140737488355328) (hp : p ≤ n) :
    Calls Tryz.prog 47 #[.pointer (some ⟨g, 0, none⟩)] w fun e w' => e = .returned (.int .i64 ((n : Int) - (p : Int))) ∧ ∃ m, w' = w.drewN m := by
  obtain ⟨c0, c1, c2, cf⟩ := hc.cells
  clear hc
  go_enter Tryz.func47, Tryz.ntmps47
  go_wp2
  go_quiet (fail)
  go_wp2
  go_ret
  exact ⟨rfl, _, rfl⟩
theorem Cur.drewN {w : World} {g p : Nat} {bv ev : Value} (h : Cur w g bv p ev) (m : Nat) : Cur (w.drewN m) g bv p ev := h
/-- A part of a slice, its end a sum. -/
theorem sl_part' (b off n cap p k : Nat) (hk : p + k ≤ cap) (hc : p < cap) (w : World) : (Instr.slice 22 (.slice (some ⟨b, off, none⟩) n cap) (some (.int .i64 (p : Int))) (some (.int .i64 ((p : Int) + (k : Int)))) none).run Tryz.prog w = .ok (.slice (some ⟨b, off + p, none⟩) k (cap - p)) w := by
  have hs : (sizeOf (Tryz.prog.elem 22)).run Tryz.prog w = .ok 1 w := Tryz.sizeOf5 w
  have he := run_slice_lh (P := Tryz.prog) (w := w) 22 (some ⟨b, off, none⟩) n cap Tryz.underlying22 .i64 .i64 (p : Int) ((p : Int) + (k : Int)) (by omega) (by omega) (by omega)
  rw [he, hs]
  simp [sliced, Result.andThen, Addr.add_lit]
  omega
theorem Cur.stepped {w : World} {g p : Nat} {bv ev : Value} (h : Cur w g bv p ev) (m k : Nat) : Cur ((w.drewN m).setCell ⟨g, 1, none⟩ (.int .i64 ((p : Int) + (k : Int)))) g bv (p + k) ev ∧ w.grownBy ((w.drewN m).setCell ⟨g, 1, none⟩ (.int .i64 ((p : Int) + (k : Int)))) (some g) := by
  have hp := (h.drewN m).place (p + k)
  rw [show ((p + k : Nat) : Int) = (p : Int) + (k : Int) by omega] at hp
  have hg := grown_cell (w.drewN m) g 1 (.int .i64 ((p : Int) + (k : Int)))
  exact ⟨hp, ⟨hg.os, hg.tape, hg.output, hg.size, hg.block⟩⟩
set_option maxHeartbeats 1000000 in
theorem pass_ok (g p n cap b off k : Nat) (w : World) (hc : Cur w g (.slice (some ⟨b, off, none⟩) n cap) p .nilIface) (hn : n ≤ 140737488355328) (hk : p + k ≤ n) (hp : p < cap) (hcap : n ≤ cap) :
    Calls Tryz.prog 45 #[.pointer (some ⟨g, 0, none⟩), .int .i64 (k : Int)] w fun e w' => e = .returned (.slice (some ⟨b, off + p, none⟩) k (cap - p)) ∧ Cur w' g (.slice (some ⟨b, off, none⟩) n cap) (p + k) .nilIface ∧ w.grownBy w' (some g) := by
  have CL := hide (left_walk g p n cap (some ⟨b, off, none⟩) .nilIface w hc hn (by omega))
  have HC := hide hc
  obtain ⟨c0, c1, c2, cf⟩ := hc.cells
  have hk0 : (0 : Int) ≤ (k : Int) := by omega
  have hk1 : (k : Int) ≤ (n : Int) - (p : Int) := by omega
  have sl := sl_part' b off n cap p k (by omega) hp
  clear hc
  go_enter Tryz.func45, Tryz.ntmps45
  go_wp2_with fail
  refine CL.out.mono ?_
  rintro e w1 ⟨rfl, m, rfl⟩
  go_wp2_with fail
  refine (demand_yes g p _ _ _ (HC.out.drewN m)).mono ?_
  rintro e w2 ⟨rfl, rfl⟩
  go_wp2_with fail
  have HS := hide (HC.out.stepped m k)
  generalize (w.drewN m).setCell ⟨g, 1, none⟩ (.int .i64 ((p : Int) + (k : Int))) = W at *
  obtain ⟨d0, d1, d2, df⟩ := HS.out.1.cells
  rw [show ((p + k : Nat) : Int) = (p : Int) + (k : Int) by omega] at d1
  clear c0 c1 c2 cf HC CL
  go_quiet (fail)
  go_wp2
  go_ret
  exact ⟨rfl, HS.out.1.drewN nq, ⟨HS.out.2.os, HS.out.2.tape, HS.out.2.output, HS.out.2.size, HS.out.2.block⟩⟩
set_option maxHeartbeats 1000000 in
theorem pass_err (g p n cap : Nat) (a : Option Addr) (c k : Int) (w : World) (hc : Cur w g (.slice a n cap) p (wErr c)) (hn : n ≤ 140737488355328) (hp : p ≤ n) (hk0 : -9223372036854775808 ≤ k) (hk1 : k ≤ 9223372036854775807) :
    Calls Tryz.prog 45 #[.pointer (some ⟨g, 0, none⟩), .int .i64 k] w fun e w' => e = .returned (.slice none 0 0) ∧ ∃ m, w' = w.drewN m := by
  have CL := hide (left_walk g p n cap a (wErr c) w hc hn (by omega))
  have HC := hide hc
  obtain ⟨c0, c1, c2, cf⟩ := hc.cells
  clear hc
  by_cases h0 : 0 ≤ k
  · go_enter Tryz.func45, Tryz.ntmps45
    go_wp2_with fail
    refine CL.out.mono ?_
    rintro e w1 ⟨rfl, m, rfl⟩
    go_wp2_with fail
    refine (demand_err g p _ c _ _ _ (HC.out.drewN m)).mono ?_
    rintro e w2 ⟨rfl, rfl⟩
    go_wp2_with fail
    go_ret
    exact ⟨rfl, _, rfl⟩
  · have hd : decide (0 ≤ k) = false := by simpa using h0
    go_enter Tryz.func45, Tryz.ntmps45
    go_wp2_with fail
    refine (demand_err g p _ c _ _ _ HC.out).mono ?_
    rintro e w2 ⟨rfl, rfl⟩
    go_wp2_with fail
    go_ret
    exact ⟨rfl, 0, rfl⟩

/-- A row of bytes lies in block G. -/
def RowB (w : World) (G : Nat) (xs : List Int) : Prop := w.heap[G]? = some (.cells (bval xs).toArray 5)
theorem RowB.lt {w : World} {G : Nat} {xs : List Int} (h : RowB w G xs) : G < w.heap.size := (Array.getElem?_eq_some_iff.1 h).1
theorem RowB.below {w w' : World} {G B : Nat} {xs : List Int} (h : RowB w G xs) (hb : Below B w w') (hB : G < B) : RowB w' G xs := (hb.block G hB).trans h
theorem RowB.kept {w w' : World} {G : Nat} {xs : List Int} {row : Option Nat} (h : RowB w G xs) (hg : w.grownBy w' row) (hne : some G ≠ row) : RowB w' G xs := (hg.block G h.lt hne).trans h
theorem RowB.cell {w : World} {G : Nat} {xs : List Int} (h : RowB w G xs) (j : Nat) (hj : j < xs.length) : w.cell? ⟨G, j, none⟩ = some (.int .u8 (xs.getD j 0)) := by
  have hv := bval_get xs j hj
  simp [World.cell?, show w.heap[G]? = some (.cells (bval xs).toArray 5) from h, hv]
theorem RowB.frozen {w : World} {G : Nat} {xs : List Int} (h : RowB w G xs) (o : Nat) : w.frozen? ⟨G, o, none⟩ = false := frozen_of_row w G o _ _ h
theorem RowB.set {w : World} {G : Nat} {xs : List Int} (h : RowB w G xs) (q : Nat) (z : Int) : RowB (w.setCell ⟨G, q, none⟩ (.int .u8 z)) G (xs.set q z) := by
  have hs := heap_setCell_same w G q _ _ (.int .u8 z) h
  unfold RowB
  rw [hs]
  congr 2
  unfold bval
  apply Array.ext'
  simp [List.map_set]
theorem RowB.arr {w : World} {G : Nat} {xs : List Int} (h : RowB w G xs) (hb : ∀ z ∈ xs, 0 ≤ z ∧ z ≤ 255) : Arr w (some ⟨G, 0, none⟩) xs :=
  ⟨hb, fun j hj => ⟨G, 0, rfl, h.lt, by rw [Nat.zero_add]; exact h.cell j hj⟩⟩
theorem splice_set {α : Type} (L : List α) (q : Nat) (cs : List α) (z : α) (h : q < L.length) : (splice L (q + 1) cs).set q z = splice L q (z :: cs) := by
  unfold splice
  rw [List.take_succ_eq_append_getElem h, List.append_assoc]
  rw [List.set_append_right _ _ (by rw [List.length_take]; omega)]
  rw [show q - (L.take q).length = 0 by rw [List.length_take]; omega]
  simp only [List.nil_append, List.set_cons_zero, List.cons_append, List.length_cons]
  rw [show q + 1 + cs.length = q + (cs.length + 1) by omega]
theorem putL_get (v : Int) (k j : Nat) (h : j < k) : (putL v k)[j]? = some (byteOf v k j) := by unfold putL; simp [h]
theorem putL_drop (v : Int) (k j : Nat) (h : j < k) : (putL v k).drop j = byteOf v k j :: (putL v k).drop (j + 1) := by
  have hl : j < (putL v k).length := by rw [putL_len]; exact h
  rw [List.drop_eq_getElem_cons hl]
  congr 1
  have e := putL_get v k j h
  rw [List.getElem?_eq_getElem hl] at e
  exact Option.some.inj e
set_option maxHeartbeats 1000000 in
theorem putNumber_at (G off k cap : Nat) (v : Int) (xs : List Int) (w : World) (hk : k ≤ 8) (hr : RowB w G xs) (hf : off + k ≤ xs.length) :
    Calls Tryz.prog 71 #[.slice (some ⟨G, off, none⟩) k cap, .int .i64 v] w fun e' w' => e' = .returned (.tuple #[]) ∧ RowB w' G (splice xs off (putL v k)) ∧ w.grownBy w' (some G) := by
  have HR : Hid (RowB w G (splice xs (off + (k - 0)) ((putL v k).drop (k - 0)))) := hide (by
    have e : (putL v k).drop k = [] := List.drop_eq_nil_of_le (by rw [putL_len]; omega)
    rw [Nat.sub_zero, e]; unfold splice; simp; exact hr)
  have HF := hide hf
  clear hr hf
  go_enter Tryz.func71, Tryz.ntmps71
  go_wp2_with fail
  go_loopw [7] (fun t w2 => ∃ (j : Nat), j ≤ k ∧ t = .int .i64 j ∧ w.grownBy w2 (some G) ∧ Hid (RowB w2 G (splice xs (off + (k - j)) ((putL v k).drop (k - j))))) (fun t _ => k - (intOf t).toNat)
  case atStart => exact ⟨0, Nat.zero_le _, rfl, World.grownBy.refl _ _, HR⟩
  case round =>
    obtain ⟨j, hj, rfl, hb, HO2⟩ := hrel
    by_cases hlt : j < k
    · have HL : Hid ((splice xs (off + (k - j)) ((putL v k).drop (k - j))).length = xs.length) := hide (length_splice _ _ _ (by rw [List.length_drop, putL_len]; have := HF.out; omega))
      have hfz : wr.frozen? ⟨G, off + (k - 1 - j), none⟩ = false := HO2.out.frozen _
      have hc3 := HO2.out.cell (off + (k - 1 - j)) (by rw [HL.out]; have := HF.out; omega)
      have HST := hide (HO2.out.set (off + (k - 1 - j)) (v / 2 ^ (8 * j) % 256))
      have HE : Hid ((splice xs (off + (k - j)) ((putL v k).drop (k - j))).set (off + (k - 1 - j)) (v / 2 ^ (8 * j) % 256) = splice xs (off + (k - (j + 1))) ((putL v k).drop (k - (j + 1)))) := hide (by
        have e1 : k - j = k - 1 - j + 1 := by omega
        have e2 : k - (j + 1) = k - 1 - j := by omega
        rw [e1, e2, ← Nat.add_assoc, splice_set _ _ _ _ (by have := HF.out; omega), putL_drop v k (k - 1 - j) (by omega)]
        congr 2
        unfold byteOf
        rw [show k - 1 - (k - 1 - j) = j by omega])
      generalize (splice xs (off + (k - j)) ((putL v k).drop (k - j))).getD (off + (k - 1 - j)) 0 = old at *
      clear HO2
      go_wp2
      exact ⟨⟨j + 1, by omega, by go_num, grown_trans hb (grown_cell _ _ _ _), hide (by rw [← HE.out]; exact HST.out)⟩, by simp [intOf]; omega⟩
    · have hj' : j = k := by omega
      subst hj'
      go_wp2
      go_end0
      refine ⟨rfl, ?_, hb⟩
      have h := HO2.out
      rw [Nat.sub_self] at h
      exact h

set_option maxHeartbeats 1000000 in
theorem takeNumber_walk (a : Option Addr) (n cap : Nat) (zs : List Int) (w : World) (hn : zs.length = n) (ha : Arr w a zs) (hm : n ≤ 6) :
    Calls Tryz.prog 78 #[.slice a n cap] w fun e w' => e = .returned (.int .i64 (tnum zs)) ∧ w' = w := by
  have HN := hide hn
  have HA := hide ha
  clear hn ha
  go_enter Tryz.func78, Tryz.ntmps78
  go_wp2_with fail
  go_loop [3, 8] (fun r t => ∃ k : Nat, k ≤ n ∧ t = .int .i64 k ∧ r = .int .i64 (tnum (zs.take k))) (fun _ t => n - (intOf t).toNat)
  case atStart => exact ⟨0, Nat.zero_le _, rfl, rfl⟩
  case round =>
    obtain ⟨k, hk, rfl, rfl⟩ := hrel
    have hb := tnum_bd zs HA.out.1 k (by rw [HN.out]; exact hk)
    by_cases hlt : k < n
    · obtain ⟨b1, o1, rfl, hb1, hc1⟩ := HA.out.2 k (by rw [HN.out]; exact hlt)
      have HT := hide (tnum_take zs k (by rw [HN.out]; exact hlt))
      have hz := getD_bd HA.out.1 k
      have hp : (256 : Nat) ^ k ≤ 256 ^ 5 := Nat.pow_le_pow_right (by decide) (by omega)
      have hp2 : (256 : Nat) ^ k ≤ 1099511627776 := hp
      have hp' : ((256 : Int) ^ k) ≤ 1099511627776 := by
        have h2 : ((256 ^ k : Nat) : Int) ≤ ((1099511627776 : Nat) : Int) := Int.ofNat_le.2 hp2
        rw [Int.natCast_pow] at h2; exact h2
      have hb0 := hb.1
      have hb2 : tnum (zs.take k) < 1099511627776 := by have := hb.2; omega
      have ho := or_low_i64 (tnum (zs.take k)) (zs.getD k 0) hb.1 (by omega) hz
      clear hb hp hp2 hp'
      generalize zs.getD k 0 = z at *
      generalize tnum (zs.take k) = r at *
      go_wp2
      go_round
      case rel => exact ⟨k + 1, by omega, by go_num, by rw [HT.out]⟩
      case measure => simp [intOf]; omega
    · have hk' : k = n := by omega
      subst hk'
      have HE : Hid (zs.take k = zs) := hide (List.take_of_length_le (by rw [HN.out]; exact Nat.le_refl _))
      go_wp2
      go_ret
      exact ⟨ret_int (by rw [HE.out]), rfl⟩

theorem run_bytes (n : Nat) (w : World) (h : n ≤ 1048576) : (Instr.makeSlice 22 (.int .i64 (n : Int)) (.int .i64 (n : Int))).run Tryz.prog w = .ok (.slice (some ⟨w.heap.size, 0, none⟩) n n) (w.alloc (.cells (bval (List.replicate n 0)).toArray 5)) := by
  obtain ⟨i, hi, hz0, hz1, hz2⟩ := info_parts Tryz.infoB
  have hr := run_makeSlice (P := Tryz.prog) w 22 5 i (.int .u8 0) Tryz.underlying22 hi hz0 .i64 .i64 (n : Int) (n : Int) (by omega) (Int.le_refl _) (by rw [hz1, Int.toNat_natCast]; omega) (by rw [hz2]; omega) (by omega)
  rw [hr, hz1, Int.toNat_natCast, Nat.mul_one]
  congr 3
  apply Array.ext'
  rw [show (Value.int IntKind.u8 0).cells = #[.int .u8 0] from rfl, toList_madeCells_one]
  unfold bval
  simp
theorem makeRoom_err (g p : Nat) (bv : Value) (c size : Int) (w : World) (hc : Cur w g bv p (wErr c)) :
    Calls Tryz.prog 34 #[.pointer (some ⟨g, 0, none⟩), .int .i64 size] w fun e w' => e = .returned (.tuple #[]) ∧ w' = w := by
  obtain ⟨c0, c1, c2, cf⟩ := hc.cells
  clear hc
  go_enter Tryz.func34, Tryz.ntmps34
  go_wp2
  go_end0
  exact ⟨rfl, rfl⟩
theorem makeRoom_ok (g p : Nat) (bv : Value) (size : Nat) (w : World) (hc : Cur w g bv p .nilIface) (hs : size ≤ 1048576) :
    Calls Tryz.prog 34 #[.pointer (some ⟨g, 0, none⟩), .int .i64 (size : Int)] w fun e w' => e = .returned (.tuple #[]) ∧ Cur w' g (.slice (some ⟨w.heap.size, 0, none⟩) size size) p .nilIface ∧ RowB w' w.heap.size (List.replicate size 0) ∧ w.grownBy w' (some g) := by
  obtain ⟨c0, c1, c2, cf⟩ := hc.cells
  have HC := hide hc
  have hlt := hc.lt
  clear hc
  have rm := run_bytes size w hs
  have hrow : RowB (w.alloc (.cells (bval (List.replicate size 0)).toArray 5)) w.heap.size (List.replicate size 0) := heap_alloc_new _ _
  have HC1 := hide (HC.out.kept (World.grownBy_alloc w (.cells (bval (List.replicate size 0)).toArray 5) none) (by simp))
  have HG := hide (World.grownBy_alloc w (.cells (bval (List.replicate size 0)).toArray 5) (some g))
  have HRow := hide hrow
  clear hrow HC
  generalize hW : w.alloc (.cells (bval (List.replicate size 0)).toArray 5) = W at *
  obtain ⟨e0, e1, e2, ef⟩ := HC1.out.cells
  have HW := hide hW
  clear hW
  go_enter Tryz.func34, Tryz.ntmps34
  go_wp2
  go_end0
  have hs := grown_cell W g 0 (.slice (some ⟨w.heap.size, 0, none⟩) size size)
  exact ⟨rfl, HC1.out.bytes _, HRow.out.kept hs (by intro e; cases e; omega), grown_trans HG.out hs⟩
set_option maxHeartbeats 1000000 in
theorem passed_walk (g p n cap b off : Nat) (ev : Value) (w : World) (hc : Cur w g (.slice (some ⟨b, off, none⟩) n cap) p ev) (hp : p ≤ cap) (h0 : 0 < cap) :
    Calls Tryz.prog 72 #[.pointer (some ⟨g, 0, none⟩)] w fun e w' => e = .returned (.slice (some ⟨b, off, none⟩) p cap) ∧ ∃ m, w' = w.drewN m := by
  obtain ⟨c0, c1, c2, cf⟩ := hc.cells
  have sl := sl_to b off n cap p hp h0
  clear hc
  go_enter Tryz.func72, Tryz.ntmps72
  go_wp2
  go_quiet (fail)
  go_wp2
  go_ret
  exact ⟨rfl, _, rfl⟩
set_option maxHeartbeats 1000000 in
theorem passed_none (g : Nat) (ev : Value) (w : World) (hc : Cur w g (.slice none 0 0) 0 ev) :
    Calls Tryz.prog 72 #[.pointer (some ⟨g, 0, none⟩)] w fun e w' => e = .returned (.slice none 0 0) ∧ ∃ m, w' = w.drewN m := by
  obtain ⟨c0, c1, c2, cf⟩ := hc.cells
  clear hc
  go_enter Tryz.func72, Tryz.ntmps72
  go_wp2
  go_quiet (fail)
  go_wp2
  go_ret
  exact ⟨rfl, _, rfl⟩
theorem putNumber_none (v : Int) (w : World) :
    Calls Tryz.prog 71 #[.slice none 0 0, .int .i64 v] w fun e' w' => e' = .returned (.tuple #[]) ∧ w' = w := by
  go_enter Tryz.func71, Tryz.ntmps71
  go_wp2_with fail
  refine wp_loop_rounds 1 ?_
  rw [rounds_succ]
  go_wp2
  go_end0
  exact ⟨rfl, rfl⟩
set_option maxHeartbeats 1000000 in
theorem put_err (g p n cap : Nat) (a : Option Addr) (c v k : Int) (w : World) (hc : Cur w g (.slice a n cap) p (wErr c)) (hn : n ≤ 140737488355328) (hp : p ≤ n) (hk0 : -9223372036854775808 ≤ k) (hk1 : k ≤ 9223372036854775807) :
    Calls Tryz.prog 70 #[.pointer (some ⟨g, 0, none⟩), .int .i64 v, .int .i64 k] w fun e w' => e = .returned (.tuple #[]) ∧ ∃ m, w' = w.drewN m := by
  have CP := hide (pass_err g p n cap a c k w hc hn hp hk0 hk1)
  clear hc
  go_enter Tryz.func70, Tryz.ntmps70
  go_wp2_with fail
  refine CP.out.mono ?_
  rintro e w1 ⟨rfl, m, rfl⟩
  go_wp2_with fail
  refine (putNumber_none v _).mono ?_
  rintro e w2 ⟨rfl, rfl⟩
  go_wp2_with fail
  go_end0
  exact ⟨rfl, m, rfl⟩
theorem bval_splice (xs zs : List Int) (p : Nat) : bval (splice xs p zs) = splice (bval xs) p (bval zs) := by
  unfold bval splice
  simp [List.map_take, List.map_drop]
theorem copy_into (ty : TypeId) (G p n dcap cap : Nat) (a : Option Addr) (xs zs : List Int) (w : World) (hr : RowB w G xs) (hn : zs.length = n) (hf : p + n ≤ xs.length) (hsrc : ∀ j v, (bval zs)[j]? = some v → ∃ b off, a = some ⟨b, off, none⟩ ∧ w.cell? ⟨b, off + j, none⟩ = some v) :
    ∃ W, (Builtin.copy_ #[22, 22] ty #[.slice (some ⟨G, p, none⟩) n dcap, .slice a n cap]).run Tryz.prog w = .ok (goInt n) W ∧ RowB W G (splice xs p zs) ∧ w.grownBy W (some G) := by
  obtain ⟨i, hi, hz0, hz1, hz2⟩ := info_parts Tryz.infoB
  have hs : (Tryz.prog.info? 5).map (·.size) = some 1 := by rw [hi]; simp [hz1]
  have hbl : (bval zs).length = n := by unfold bval; rw [List.length_map]; exact hn
  have hxl : (bval xs).length = xs.length := by unfold bval; rw [List.length_map]
  cases n with
  | zero =>
    have e : zs = [] := List.length_eq_zero_iff.1 hn
    subst e
    refine ⟨w, run_copy_none (P := Tryz.prog) w 22 22 ty 5 (some ⟨G, p, none⟩) a 0 dcap 0 cap Tryz.underlying22 hs (by simp), ?_, World.grownBy.refl _ _⟩
    have e2 : splice xs p [] = xs := by unfold splice; simp
    rw [e2]; exact hr
  | succ m =>
    obtain ⟨b, off, ea, _⟩ := hsrc 0 _ (List.getElem?_eq_getElem (by omega))
    subst ea
    have h := run_copy_row (P := Tryz.prog) w 22 22 ty 5 G p (m + 1) dcap ⟨b, off, none⟩ (m + 1) cap (bval xs).toArray 5 (bval zs) Tryz.underlying22 hs hr (by rw [hbl]; simp) (fun j v hv => by
      obtain ⟨b', o', e, hc⟩ := hsrc j v hv
      cases e
      rw [Addr.add_lit]; exact hc) (by rw [hbl]; simp [hxl]; omega) (oneCells zs)
    refine ⟨w.setRow G (splice (bval xs) p (bval zs)).toArray, ?_, ?_, ⟨rfl, rfl, rfl, by simp [World.setRow], fun k _ hk => setRow_other w G k _ (fun e => hk (by rw [e]))⟩⟩
    · rw [h]
      unfold splice
      rw [List.append_assoc, hbl]
    · unfold RowB
      rw [bval_splice]
      exact setRow_heap w G _ _ _ _ hr
set_option maxHeartbeats 1000000 in
theorem putBytes_err (g p n cap m k : Nat) (a b : Option Addr) (c : Int) (w : World) (hc : Cur w g (.slice a n cap) p (wErr c)) (hn : n ≤ 140737488355328) (hp : p ≤ n) (hm : m ≤ 140737488355328) :
    Calls Tryz.prog 38 #[.pointer (some ⟨g, 0, none⟩), .slice b m k] w fun e w' => e = .returned (.tuple #[]) ∧ ∃ m, w' = w.drewN m := by
  have CP := hide (pass_err g p n cap a c (m : Int) w hc hn hp (by omega) (by omega))
  clear hc
  obtain ⟨i, hi, hz0, hz1, hz2⟩ := info_parts Tryz.infoB
  have hs : (Tryz.prog.info? 5).map (·.size) = some 1 := by rw [hi]; simp [hz1]
  have HR := hide (fun w => run_copy_none (P := Tryz.prog) w 22 22 3 5 none b 0 0 m k Tryz.underlying22 hs (by simp))
  clear hi hz0 hz1 hz2 hs
  go_enter Tryz.func38, Tryz.ntmps38
  go_wp2_with fail
  refine CP.out.mono ?_
  rintro e w1 ⟨rfl, d, rfl⟩
  have hr := HR.out (w.drewN d)
  go_wp2_with fail
  go_end0
  exact ⟨rfl, d, rfl⟩
set_option maxHeartbeats 1000000 in
theorem take_ok (g p n cap b off k : Nat) (zs : List Int) (w : World) (hc : Cur w g (.slice (some ⟨b, off, none⟩) n cap) p .nilIface) (hn : n ≤ 1048576) (hk : p + k ≤ n) (hp : p < cap) (hcap : n ≤ cap) (hz : zs.length = n) (ha : Arr w (some ⟨b, off, none⟩) zs) (hb : b ≠ g) (h6 : k ≤ 6) :
    Calls Tryz.prog 44 #[.pointer (some ⟨g, 0, none⟩), .int .i64 (k : Int)] w fun e w' => e = .returned (.int .i64 (tnum ((zs.drop p).take k))) ∧ Cur w' g (.slice (some ⟨b, off, none⟩) n cap) (p + k) .nilIface ∧ w.grownBy w' (some g) := by
  have CP := hide (pass_ok g p n cap b off k w hc (by omega) hk hp hcap)
  have HZ := hide hz
  have HA := hide ha
  clear hc ha hz
  go_enter Tryz.func44, Tryz.ntmps44
  go_wp2_with fail
  refine CP.out.mono ?_
  rintro e w1 ⟨rfl, hc1, hg1⟩
  have HC1 := hide hc1
  have HG1 := hide hg1
  have ha1 : Arr w1 (some ⟨b, off, none⟩) zs := ⟨HA.out.1, fun j hj => by
    obtain ⟨b', o', e, hlt, hcell⟩ := HA.out.2 j hj
    cases e
    exact ⟨b, off, rfl, Nat.lt_of_lt_of_le hlt hg1.size, by rw [World.cell?_of_block (a := ⟨b, off + j, none⟩) (hg1.block b hlt (by intro e; cases e; exact hb rfl))]; exact hcell⟩⟩
  have CT := hide (takeNumber_walk (some ⟨b, off + p, none⟩) k (cap - p) ((zs.drop p).take k) w1 (by rw [List.length_take, List.length_drop, HZ.out]; omega) ((ha1.drop p).take k) h6)
  clear hc1 hg1 ha1
  go_wp2_with fail
  refine CT.out.mono ?_
  rintro e w2 ⟨rfl, hw2⟩
  rw [hw2]
  clear hw2
  go_wp2_with fail
  go_ret
  exact ⟨rfl, HC1.out, HG1.out⟩
theorem takeNumber_none (w : World) :
    Calls Tryz.prog 78 #[.slice none 0 0] w fun e w' => e = .returned (.int .i64 0) ∧ w' = w := takeNumber_walk none 0 0 [] w rfl ⟨by simp, fun j hj => by simp at hj⟩ (by omega)
set_option maxHeartbeats 1000000 in
theorem take_err (g p n cap : Nat) (a : Option Addr) (c k : Int) (w : World) (hc : Cur w g (.slice a n cap) p (wErr c)) (hn : n ≤ 140737488355328) (hp : p ≤ n) (hk0 : -9223372036854775808 ≤ k) (hk1 : k ≤ 9223372036854775807) :
    Calls Tryz.prog 44 #[.pointer (some ⟨g, 0, none⟩), .int .i64 k] w fun e w' => e = .returned (.int .i64 0) ∧ ∃ m, w' = w.drewN m := by
  have CP := hide (pass_err g p n cap a c k w hc hn hp hk0 hk1)
  clear hc
  go_enter Tryz.func44, Tryz.ntmps44
  go_wp2_with fail
  refine CP.out.mono ?_
  rintro e w1 ⟨rfl, m, rfl⟩
  go_wp2_with fail
  refine (takeNumber_none _).mono ?_
  rintro e w2 ⟨rfl, rfl⟩
  go_wp2_with fail
  go_ret
  exact ⟨rfl, m, rfl⟩
theorem RowB.own {w : World} {G B : Nat} {xs : List Int} (h : RowB w G xs) (hB : B ≤ G) (hb : ∀ z ∈ xs, 0 ≤ z ∧ z ≤ 255) (hm : xs.length ≤ 1048576) : OwnB w B (.slice (some ⟨G, 0, none⟩) xs.length xs.length) xs := by
  have hl : (bval xs).length = xs.length := by unfold bval; rw [List.length_map]
  refine ⟨⟨by rw [hl]; omega, .inr ⟨G, xs.length, (bval xs).toArray, rfl, hB, h, Nat.le_refl _, by unfold maxLen; omega, by simp [hl], ?_⟩⟩, hb⟩
  rw [Nat.mul_one, List.toList_toArray]
  exact List.take_of_length_le (by rw [hl]; exact Nat.le_refl _)
theorem splice_all (xs zs : List Int) (h : zs.length = xs.length) : splice xs 0 zs = zs := by
  unfold splice
  rw [List.take_zero, List.nil_append, Nat.zero_add, List.drop_eq_nil_of_le (by omega), List.append_nil]
theorem Arr.aside {w w' : World} {b off g : Nat} {zs : List Int} (h : Arr w (some ⟨b, off, none⟩) zs) (hg : w.grownBy w' (some g)) (hb : b ≠ g) : Arr w' (some ⟨b, off, none⟩) zs :=
  ⟨h.1, fun j hj => by
    obtain ⟨b', o', e, hlt, hcell⟩ := h.2 j hj
    cases e
    exact ⟨b, off, rfl, Nat.lt_of_lt_of_le hlt hg.size, by rw [World.cell?_of_block (a := ⟨b, off + j, none⟩) (hg.block b hlt (by intro e; cases e; exact hb rfl))]; exact hcell⟩⟩
theorem arr_src {w : World} {b off : Nat} {zs : List Int} (h : Arr w (some ⟨b, off, none⟩) zs) : ∀ j v, (bval zs)[j]? = some v → ∃ b' off', some (⟨b, off, none⟩ : Addr) = some ⟨b', off', none⟩ ∧ w.cell? ⟨b', off' + j, none⟩ = some v := by
  intro j v hv
  have hj : j < zs.length := by
    have := (List.getElem?_eq_some_iff.1 hv).1
    simpa [bval] using this
  obtain ⟨b', off', e, hlt, hcell⟩ := h.2 j hj
  exact ⟨b', off', e, by rw [hcell, ← bval_get zs j hj, hv]⟩
theorem grown_new {w u W : World} {g G : Nat} (h : w.grownBy u (some g)) (k : u.grownBy W (some G)) (hG : w.heap.size ≤ G) : w.grownBy W (some g) :=
  ⟨k.os.trans h.os, k.tape.trans h.tape, k.output.trans h.output, Nat.le_trans h.size k.size, fun i hi hne => (k.block i (Nat.lt_of_lt_of_le hi h.size) (fun e => by cases e; omega)).trans (h.block i hi hne)⟩
set_option maxHeartbeats 1000000 in
theorem takeBytes_ok (g p n cap b off k : Nat) (zs : List Int) (w : World) (hc : Cur w g (.slice (some ⟨b, off, none⟩) n cap) p .nilIface) (hn : n ≤ 1048576) (hk : p + k ≤ n) (hp : p < cap) (hcap : n ≤ cap) (hz : zs.length = n) (ha : Arr w (some ⟨b, off, none⟩) zs) (hb : b ≠ g) :
    Calls Tryz.prog 46 #[.pointer (some ⟨g, 0, none⟩), .int .i64 (k : Int)] w fun e w' => ∃ v, e = .returned v ∧ OwnB w' w.heap.size v ((zs.drop p).take k) ∧ Cur w' g (.slice (some ⟨b, off, none⟩) n cap) (p + k) .nilIface ∧ w.grownBy w' (some g) := by
  have CP := hide (pass_ok g p n cap b off k w hc (by omega) hk hp hcap)
  have HL : Hid (((zs.drop p).take k).length = k) := hide (by rw [List.length_take, List.length_drop, hz]; omega)
  have HA := hide ha
  have hgl := hc.lt
  clear hc ha hz
  go_enter Tryz.func46, Tryz.ntmps46
  go_wp2_with fail
  refine CP.out.mono ?_
  rintro e w1 ⟨rfl, hc1, hg1⟩
  have HA1 := hide (HA.out.aside hg1 hb)
  have rm := run_bytes k w1 (by omega)
  have hal := World.grownBy_alloc w1 (.cells (bval (List.replicate k 0)).toArray 5) (some g)
  have hrow : RowB (w1.alloc (.cells (bval (List.replicate k 0)).toArray 5)) w1.heap.size (List.replicate k 0) := heap_alloc_new _ _
  have hz1 := hg1.size
  obtain ⟨W, hrun, hrW, hgW⟩ := copy_into 3 w1.heap.size 0 k k (cap - p) (some ⟨b, off + p, none⟩) (List.replicate k 0) ((zs.drop p).take k) _ hrow HL.out (by rw [List.length_replicate]; omega) (arr_src (((HA1.out.aside hal hb).drop p).take k))
  rw [splice_all _ _ (by rw [HL.out, List.length_replicate])] at hrW
  have HOW := hide (hrW.own (B := w.heap.size) hz1 (((HA1.out.drop p).take k).1) (by rw [HL.out]; omega))
  have HCW := hide ((hc1.kept (World.grownBy_alloc w1 (.cells (bval (List.replicate k 0)).toArray 5) none) (by simp)).kept hgW (by intro e; cases e; omega))
  have HGW := hide (grown_new (grown_trans hg1 hal) hgW hz1)
  rw [HL.out] at HOW
  clear hal hrow hz1 hrW hgW hc1 hg1 HA1 HA
  go_wp2_with fail
  go_ret
  exact ⟨_, rfl, HOW.out, HCW.out, HGW.out⟩
set_option maxHeartbeats 1000000 in
theorem takeBytes_err (g p n cap : Nat) (a : Option Addr) (c k : Int) (w : World) (hc : Cur w g (.slice a n cap) p (wErr c)) (hn : n ≤ 140737488355328) (hp : p ≤ n) (hk0 : -9223372036854775808 ≤ k) (hk1 : k ≤ 9223372036854775807) :
    Calls Tryz.prog 46 #[.pointer (some ⟨g, 0, none⟩), .int .i64 k] w fun e w' => e = .returned (.slice (some ⟨w.heap.size, 0, none⟩) 0 0) ∧ Below w.heap.size w w' := by
  have CP := hide (pass_err g p n cap a c k w hc hn hp hk0 hk1)
  obtain ⟨i, hi, hz0, hz1, hz2⟩ := info_parts Tryz.infoB
  have hs : (Tryz.prog.info? 5).map (·.size) = some 1 := by rw [hi]; simp [hz1]
  have HR := hide (fun w (d : Option Addr) => run_copy_none (P := Tryz.prog) w 22 22 3 5 d none 0 0 0 0 Tryz.underlying22 hs (by simp))
  clear hi hz0 hz1 hz2 hs hc
  go_enter Tryz.func46, Tryz.ntmps46
  go_wp2_with fail
  refine CP.out.mono ?_
  rintro e w1 ⟨rfl, d, rfl⟩
  have rm : (Instr.makeSlice 22 (.int .i64 0) (.int .i64 0)).run Tryz.prog (w.drewN d) = .ok (.slice (some ⟨w.heap.size, 0, none⟩) 0 0) ((w.drewN d).alloc (.cells (bval (List.replicate 0 0)).toArray 5)) := run_bytes 0 (w.drewN d) (by omega)
  have hb := (Below.refl w.heap.size w).alloc (Nat.le_refl _) (.cells (bval (List.replicate 0 0)).toArray 5)
  have HB : Hid (Below w.heap.size w ((w.drewN d).alloc (.cells (bval (List.replicate 0 0)).toArray 5))) := hide ⟨hb.os, hb.tape, hb.output, hb.size, hb.block⟩
  have hr := HR.out ((w.drewN d).alloc (.cells (bval (List.replicate 0 0)).toArray 5)) (some ⟨w.heap.size, 0, none⟩)
  clear hb HR
  generalize (w.drewN d).alloc (.cells (bval (List.replicate 0 0)).toArray 5) = W at *
  go_wp2_with fail
  go_ret
  exact ⟨rfl, HB.out⟩

theorem splice_fill (done cs : List Int) (p m : Nat) (hp : done.length = p) : splice (done ++ List.replicate m 0) p cs = (done ++ cs) ++ List.replicate (m - cs.length) 0 := by
  subst hp
  unfold splice
  rw [List.take_left, List.drop_append, List.drop_eq_nil_of_le (by omega), List.nil_append, List.drop_replicate]
  rw [show done.length + cs.length - done.length = cs.length by omega, List.append_assoc]
theorem tk2 (g p n cap b off : Nat) (zs : List Int) (w : World) (hc : Cur w g (.slice (some ⟨b, off, none⟩) n cap) p .nilIface) (hn : n ≤ 1048576) (hk : p + 2 ≤ n) (hcap : n ≤ cap) (hz : zs.length = n) (ha : Arr w (some ⟨b, off, none⟩) zs) (hb : b ≠ g) :
    Calls Tryz.prog 44 #[.pointer (some ⟨g, 0, none⟩), .int .i64 2] w fun e w' => e = .returned (.int .i64 (tnum ((zs.drop p).take 2))) ∧ Cur w' g (.slice (some ⟨b, off, none⟩) n cap) (p + 2) .nilIface ∧ w.grownBy w' (some g) :=
  take_ok g p n cap b off 2 zs w hc hn hk (by omega) hcap hz ha hb (by omega)
theorem tk4 (g p n cap b off : Nat) (zs : List Int) (w : World) (hc : Cur w g (.slice (some ⟨b, off, none⟩) n cap) p .nilIface) (hn : n ≤ 1048576) (hk : p + 4 ≤ n) (hcap : n ≤ cap) (hz : zs.length = n) (ha : Arr w (some ⟨b, off, none⟩) zs) (hb : b ≠ g) :
    Calls Tryz.prog 44 #[.pointer (some ⟨g, 0, none⟩), .int .i64 4] w fun e w' => e = .returned (.int .i64 (tnum ((zs.drop p).take 4))) ∧ Cur w' g (.slice (some ⟨b, off, none⟩) n cap) (p + 4) .nilIface ∧ w.grownBy w' (some g) :=
  take_ok g p n cap b off 4 zs w hc hn hk (by omega) hcap hz ha hb (by omega)
set_option maxRecDepth 100000
/-- Nothing but these blocks, and new ones, has changed. -/
structure Only (S : List Nat) (w w' : World) : Prop where
  os : w'.os = w.os
  tape : w'.tape = w.tape
  output : w'.output = w.output
  size : w.heap.size ≤ w'.heap.size
  block : ∀ k, k < w.heap.size → k ∉ S → w'.heap[k]? = w.heap[k]?
theorem Only.refl (S : List Nat) (w : World) : Only S w w := ⟨rfl, rfl, rfl, Nat.le_refl _, fun _ _ _ => rfl⟩
theorem Only.trans {S : List Nat} {a b c : World} (h : Only S a b) (k : Only S b c) : Only S a c :=
  ⟨k.os.trans h.os, k.tape.trans h.tape, k.output.trans h.output, Nat.le_trans h.size k.size, fun i hi hn => (k.block i (Nat.lt_of_lt_of_le hi h.size) hn).trans (h.block i hi hn)⟩
theorem Only.mono {S T : List Nat} {a b : World} (h : Only S a b) (hS : ∀ x ∈ S, x ∈ T) : Only T a b := ⟨h.os, h.tape, h.output, h.size, fun i hi hn => h.block i hi (fun hm => hn (hS i hm))⟩
theorem Only.of_some {w w' : World} {g : Nat} (h : w.grownBy w' (some g)) : Only [g] w w' :=
  ⟨h.os, h.tape, h.output, h.size, fun k hk hn => h.block k hk (fun e => hn (by cases e; simp))⟩
theorem Only.below {S : List Nat} {w w' : World} {B : Nat} (h : Only S w w') (hS : ∀ x ∈ S, B ≤ x) (hB : B ≤ w.heap.size) : Below B w w' :=
  ⟨h.os, h.tape, h.output, h.size, fun k hk => h.block k (by omega) (fun hm => by have := hS k hm; omega)⟩
theorem Only.of_below {S : List Nat} {w w' : World} (h : Below w.heap.size w w') : Only S w w' := ⟨h.os, h.tape, h.output, h.size, fun k hk _ => h.block k hk⟩

/-- A struct's box: its cells lie in the block where this call began. -/
def BoxRow (w0 w : World) (cs : Array Value) (ty : Nat) : Prop := Below w0.heap.size w0 w ∧ w0.heap.size < w.heap.size ∧ w.heap[w0.heap.size]? = some (.cells cs ty)
theorem BoxRow.start (w0 : World) (cs : Array Value) (ty : Nat) : BoxRow w0 (w0.alloc (.cells cs ty)) cs ty := ⟨(Below.refl _ _).alloc (Nat.le_refl _) _, by rw [World.size_alloc]; omega, heap_alloc_new _ _⟩
theorem BoxRow.next {w0 w w' : World} {cs : Array Value} {ty : Nat} (h : BoxRow w0 w cs ty) (hb : Below w.heap.size w w') : BoxRow w0 w' cs ty := ⟨h.1.trans (hb.mono h.1.size), Nat.lt_of_lt_of_le h.2.1 hb.size, (hb.block _ h.2.1).trans h.2.2⟩
theorem BoxRow.cell {w0 w : World} {cs : Array Value} {ty : Nat} (h : BoxRow w0 w cs ty) (i : Nat) : w.cell? ⟨w0.heap.size, i, none⟩ = cs[i]? := cell_of_row _ _ i _ _ _ h.2.2
/-- Two boxes lie where this call began. -/
def TwoB (w W : World) (o1 o2 : Obj) : Prop := (Below w.heap.size w W ∧ w.heap.size + 1 < W.heap.size) ∧ W.heap[w.heap.size]? = some o1 ∧ W.heap[w.heap.size + 1]? = some o2
theorem TwoB.start (w : World) (o1 o2 : Obj) : TwoB w ((w.alloc o1).alloc o2) o1 o2 := by
  have s1 := World.size_alloc w o1
  have s2 := World.size_alloc (w.alloc o1) o2
  refine ⟨⟨((Below.refl _ _).alloc (Nat.le_refl _) _).alloc (by omega) _, by omega⟩, ?_, ?_⟩
  · rw [Below.heap_alloc _ o2 _ (by omega)]; exact heap_alloc_new w o1
  · rw [← s1]; exact heap_alloc_new (w.alloc o1) o2
theorem TwoB.next {w W W' : World} {o1 o2 : Obj} (h : TwoB w W o1 o2) (hb : Below W.heap.size W W') : TwoB w W' o1 o2 :=
  ⟨⟨h.1.1.trans (hb.mono h.1.1.size), Nat.lt_of_lt_of_le h.1.2 hb.size⟩, (hb.block _ (by have := h.1.2; omega)).trans h.2.1, (hb.block _ h.1.2).trans h.2.2⟩
theorem OwnB.only {R : List Nat} {w w' : World} {B : Nat} {v : Value} {zs : List Int} (h : OwnB w B v zs) (k : Only R w w') (hn : ∀ b, v.ownBlock = some b → b ∉ R) : OwnB w' B v zs :=
  ⟨⟨h.1.1, by
    rcases h.1.2 with h0 | ⟨g, cap, cur, hv, hB, hg, hrest⟩
    · exact .inl h0
    · exact .inr ⟨g, cap, cur, hv, hB, by rw [k.block g (Array.getElem?_eq_some_iff.1 hg).1 (hn g (by rw [hv]; rfl))]; exact hg, hrest⟩⟩, h.2⟩
theorem OwnB.ge {w : World} {B : Nat} {v : Value} {zs : List Int} (h : OwnB w B v zs) : ∀ k, v.ownBlock = some k → B ≤ k := fun k hk => (h.1.lt k hk).1

/-- A Packet's box is as it was laid. -/
abbrev BoxPacket (w0 w : World) (x0 : Int) (x1 : Int) (x2 : Bool) (x3 : Bool) (x4 : Int) (x5 : Int) (x6 : Int) (x7 : Int) (x8 : Int) (v0 : Value) (v1 : Value) : Prop := Below w0.heap.size w0 w ∧ w0.heap.size < w.heap.size ∧ w.cell? ⟨w0.heap.size, 0, none⟩ = some (.int .i64 x0) ∧ w.cell? ⟨w0.heap.size, 1, none⟩ = some (.int .i64 x1) ∧ w.cell? ⟨w0.heap.size, 2, none⟩ = some (.bool x2) ∧ w.cell? ⟨w0.heap.size, 3, none⟩ = some (.bool x3) ∧ w.cell? ⟨w0.heap.size, 4, none⟩ = some (.int .i64 x4) ∧ w.cell? ⟨w0.heap.size, 5, none⟩ = some (.int .i64 x5) ∧ w.cell? ⟨w0.heap.size, 6, none⟩ = some (.int .i64 x6) ∧ w.cell? ⟨w0.heap.size, 7, none⟩ = some (.int .i64 x7) ∧ w.cell? ⟨w0.heap.size, 8, none⟩ = some (.int .i64 x8) ∧ w.cell? ⟨w0.heap.size, 9, none⟩ = some (v0) ∧ w.cell? ⟨w0.heap.size, 10, none⟩ = some (v1)
theorem BoxPacket.start (w0 : World) (x0 : Int) (x1 : Int) (x2 : Bool) (x3 : Bool) (x4 : Int) (x5 : Int) (x6 : Int) (x7 : Int) (x8 : Int) (v0 : Value) (v1 : Value) (ty : Nat) : BoxPacket w0 (w0.alloc (.cells #[.int .i64 x0, .int .i64 x1, .bool x2, .bool x3, .int .i64 x4, .int .i64 x5, .int .i64 x6, .int .i64 x7, .int .i64 x8, v0, v1] ty)) x0 x1 x2 x3 x4 x5 x6 x7 x8 v0 v1 := by
  have hh := heap_alloc_new w0 (.cells #[.int .i64 x0, .int .i64 x1, .bool x2, .bool x3, .int .i64 x4, .int .i64 x5, .int .i64 x6, .int .i64 x7, .int .i64 x8, v0, v1] ty)
  exact ⟨(Below.refl _ _).alloc (Nat.le_refl _) _, by rw [World.size_alloc]; omega, cell_of_row _ _ 0 _ _ _ hh, cell_of_row _ _ 1 _ _ _ hh, cell_of_row _ _ 2 _ _ _ hh, cell_of_row _ _ 3 _ _ _ hh, cell_of_row _ _ 4 _ _ _ hh, cell_of_row _ _ 5 _ _ _ hh, cell_of_row _ _ 6 _ _ _ hh, cell_of_row _ _ 7 _ _ _ hh, cell_of_row _ _ 8 _ _ _ hh, cell_of_row _ _ 9 _ _ _ hh, cell_of_row _ _ 10 _ _ _ hh⟩
theorem BoxPacket.keep {w0 w w' : World} {C : Nat} {x0 : Int} {x1 : Int} {x2 : Bool} {x3 : Bool} {x4 : Int} {x5 : Int} {x6 : Int} {x7 : Int} {x8 : Int} {v0 : Value} {v1 : Value} (h : BoxPacket w0 w x0 x1 x2 x3 x4 x5 x6 x7 x8 v0 v1) (hb : Below C w w') (hC : w0.heap.size < C) : BoxPacket w0 w' x0 x1 x2 x3 x4 x5 x6 x7 x8 v0 v1 := by
  obtain ⟨h1, h2, k0, k1, k2, k3, k4, k5, k6, k7, k8, k9, k10⟩ := h
  exact ⟨h1.trans (hb.mono (by omega)), Nat.lt_of_lt_of_le h2 hb.size, by rw [hb.cell (p := ⟨w0.heap.size, 0, none⟩) hC]; exact k0, by rw [hb.cell (p := ⟨w0.heap.size, 1, none⟩) hC]; exact k1, by rw [hb.cell (p := ⟨w0.heap.size, 2, none⟩) hC]; exact k2, by rw [hb.cell (p := ⟨w0.heap.size, 3, none⟩) hC]; exact k3, by rw [hb.cell (p := ⟨w0.heap.size, 4, none⟩) hC]; exact k4, by rw [hb.cell (p := ⟨w0.heap.size, 5, none⟩) hC]; exact k5, by rw [hb.cell (p := ⟨w0.heap.size, 6, none⟩) hC]; exact k6, by rw [hb.cell (p := ⟨w0.heap.size, 7, none⟩) hC]; exact k7, by rw [hb.cell (p := ⟨w0.heap.size, 8, none⟩) hC]; exact k8, by rw [hb.cell (p := ⟨w0.heap.size, 9, none⟩) hC]; exact k9, by rw [hb.cell (p := ⟨w0.heap.size, 10, none⟩) hC]; exact k10⟩
theorem BoxPacket.next {w0 w w' : World} {x0 : Int} {x1 : Int} {x2 : Bool} {x3 : Bool} {x4 : Int} {x5 : Int} {x6 : Int} {x7 : Int} {x8 : Int} {v0 : Value} {v1 : Value} (h : BoxPacket w0 w x0 x1 x2 x3 x4 x5 x6 x7 x8 v0 v1) (hb : Below w.heap.size w w') : BoxPacket w0 w' x0 x1 x2 x3 x4 x5 x6 x7 x8 v0 v1 := h.keep hb h.2.1
theorem BoxPacket.drew {w0 w : World} {x0 : Int} {x1 : Int} {x2 : Bool} {x3 : Bool} {x4 : Int} {x5 : Int} {x6 : Int} {x7 : Int} {x8 : Int} {v0 : Value} {v1 : Value} (h : BoxPacket w0 w x0 x1 x2 x3 x4 x5 x6 x7 x8 v0 v1) : BoxPacket w0 w.drew x0 x1 x2 x3 x4 x5 x6 x7 x8 v0 v1 := h.next ((Below.refl _ _).drew)
/-- What is wanted of a function of a Packet that answers bytes and a code. -/
def EncPacketP (f : Nat) (Pre : World → Prop) (x0 : Int) (x1 : Int) (x2 : Bool) (x3 : Bool) (x4 : Int) (x5 : Int) (x6 : Int) (x7 : Int) (x8 : Int) (z0 : List Int) (z1 : List Int) (L : List Int) (C : Int) : Prop :=
  ∀ (a0 : Option Addr) (n0 c0 : Nat) (a1 : Option Addr) (n1 c1 : Nat) (W : World), z0.length = n0 → Arr W a0 z0 → n0 ≤ c0 → n0 ≤ 1048576 → z1.length = n1 → Arr W a1 z1 → n1 ≤ c1 → n1 ≤ 1048576 → Pre W → Calls Tryz.prog f #[.agg #[.int .i64 x0, .int .i64 x1, .bool x2, .bool x3, .int .i64 x4, .int .i64 x5, .int .i64 x6, .int .i64 x7, .int .i64 x8, .slice a0 n0 c0, .slice a1 n1 c1]] W fun e w' => ∃ v : Value, e = .returned (.tuple #[v, .int .i64 C]) ∧ OwnB w' W.heap.size v L ∧ Below W.heap.size W w'
/-- What is wanted of a function of bytes that answers a Packet and a code. -/
def DecPacketP (f : Nat) (Pre : World → Prop) (zs : List Int) (x0 : Int) (x1 : Int) (x2 : Bool) (x3 : Bool) (x4 : Int) (x5 : Int) (x6 : Int) (x7 : Int) (x8 : Int) (L0 L1 : List Int) (C : Int) : Prop :=
  ∀ (a : Option Addr) (n cap : Nat) (W : World), zs.length = n → Arr W a zs → n ≤ cap → n ≤ 1048576 → Pre W → Calls Tryz.prog f #[.slice a n cap] W fun e w' => ∃ v0 v1 : Value, e = .returned (.tuple #[.agg #[.int .i64 x0, .int .i64 x1, .bool x2, .bool x3, .int .i64 x4, .int .i64 x5, .int .i64 x6, .int .i64 x7, .int .i64 x8, v0, v1], .int .i64 C]) ∧ OwnB w' W.heap.size v0 L0 ∧ OwnB w' W.heap.size v1 L1 ∧ (∀ b, v0.ownBlock = some b → v1.ownBlock ≠ some b) ∧ Below W.heap.size W w'
set_option maxRecDepth 100000
/-- A box laid at the world's end, and kept. -/
def BoxV (w W : World) (vs : Array Value) (T : Nat) : Prop := Below w.heap.size w W ∧ w.heap.size < W.heap.size ∧ W.heap[w.heap.size]? = some (.cells vs T)
theorem BoxV.start (w : World) (vs : Array Value) (T : Nat) : BoxV w (w.alloc (.cells vs T)) vs T :=
  ⟨(Below.refl _ _).alloc (Nat.le_refl _) _, by rw [World.size_alloc]; omega, heap_alloc_new _ _⟩
def HoldV (w : World) (H : Nat) (vs : Array Value) (T : Nat) : Prop := w.heap[H]? = some (.cells vs T)
theorem HoldV.lt {w : World} {H T : Nat} {vs : Array Value} (h : HoldV w H vs T) : H < w.heap.size := (Array.getElem?_eq_some_iff.1 h).1
theorem HoldV.below {w w' : World} {H T B : Nat} {vs : Array Value} (h : HoldV w H vs T) (hb : Below B w w') (hB : H < B) : HoldV w' H vs T := (hb.block H hB).trans h
theorem HoldV.next {w w' : World} {H T : Nat} {vs : Array Value} (h : HoldV w H vs T) (hb : Below w.heap.size w w') : HoldV w' H vs T := h.below hb h.lt
theorem HoldV.cell {w : World} {H T : Nat} {vs : Array Value} (h : HoldV w H vs T) (i : Nat) (v : Value) (hv : vs[i]? = some v) : w.cell? ⟨H, i, none⟩ = some v := (cell_of_row _ _ _ _ _ _ h).trans hv
theorem HoldV.frozen {w : World} {H T : Nat} {vs : Array Value} (h : HoldV w H vs T) (o : Nat) : w.frozen? ⟨H, o, none⟩ = false := frozen_of_row w H o _ _ h
theorem two_allocs (w : World) (o1 o2 : Obj) : Below w.heap.size w ((w.alloc o1).alloc o2) ∧ ((w.alloc o1).alloc o2).heap[w.heap.size]? = some o1 ∧ ((w.alloc o1).alloc o2).heap[w.heap.size + 1]? = some o2 := by
  have s1 := World.size_alloc w o1
  refine ⟨((Below.refl _ _).alloc (Nat.le_refl _) _).alloc (by omega) _, ?_, ?_⟩
  · rw [((Below.refl (w.alloc o1).heap.size _).alloc (Nat.le_refl _) o2).block w.heap.size (by omega)]; exact heap_alloc_new _ _
  · rw [← s1]; exact heap_alloc_new _ _
theorem BoxV.cell {w W : World} {vs : Array Value} {T : Nat} (h : BoxV w W vs T) (i : Nat) (v : Value) (hv : vs[i]? = some v) : W.cell? ⟨w.heap.size, i, none⟩ = some v := cell_of_row _ _ _ _ _ _ h.2.2 |>.trans hv
theorem lt_cell {w : World} {b i : Nat} {v : Value} (h : w.cell? ⟨b, i, none⟩ = some v) : b < w.heap.size := by
  rcases Nat.lt_or_ge b w.heap.size with h' | h'
  · exact h'
  · simp [World.cell?, Array.getElem?_eq_none h'] at h

set_option maxHeartbeats 2000000 in
theorem ansB_nil (a : Option Addr) (n cap : Nat) (w : World) :
    Calls Tryz.prog 39 #[.slice a n cap, .nilIface] w fun e w' => e = .returned (.tuple #[.slice a n cap, .int .i64 0]) ∧ Below w.heap.size w w' := by
  go_enter Tryz.func39, Tryz.ntmps39
  go_wp2_with fail
  refine (codeOf_nil w).mono ?_
  rintro e w1 ⟨rfl, hb1⟩
  go_wp2_with fail
  go_ret2
  exact ⟨rfl, hb1⟩
set_option maxHeartbeats 2000000 in
theorem ansB_err (a : Option Addr) (n cap : Nat) (c : Int) (hc0 : c ≠ 0) (w : World) (he : ErrT w) :
    Calls Tryz.prog 39 #[.slice a n cap, wErr c] w fun e w' => e = .returned (.tuple #[.slice none 0 0, .int .i64 c]) ∧ Below w.heap.size w w' := by
  have hcb : (c != 0) = true := by simpa using hc0
  clear hc0
  go_enter Tryz.func39, Tryz.ntmps39
  go_wp2_with fail
  refine (codeOf_err c w he).mono ?_
  rintro e w1 ⟨rfl, hb1⟩
  go_wp2_with fail
  go_ret2
  exact ⟨rfl, hb1⟩

set_option maxHeartbeats 2000000 in
theorem ansIcmp_nil (x0 : Int) (x1 : Int) (x2 : Int) (a3 : Option Addr) (n3 c3 : Nat) (w : World) :
    Calls Tryz.prog 48 #[.agg #[.int .i64 x0, .int .i64 x1, .int .i64 x2, .slice a3 n3 c3], .nilIface] w fun e w' => e = .returned (.tuple #[.agg #[.int .i64 x0, .int .i64 x1, .int .i64 x2, .slice a3 n3 c3], .int .i64 0]) ∧ Below w.heap.size w w' := by
  have HB := hide (two_allocs w (.cells #[.int .i64 x0, .int .i64 x1, .int .i64 x2, .slice a3 n3 c3] 34) (.cells #[.int .i64 0, .int .i64 0, .int .i64 0, .slice none 0 0] 34))
  generalize hW : (w.alloc (.cells #[.int .i64 x0, .int .i64 x1, .int .i64 x2, .slice a3 n3 c3] 34)).alloc (.cells #[.int .i64 0, .int .i64 0, .int .i64 0, .slice none 0 0] 34) = W at *
  have HW := hide hW
  clear hW
  go_enter Tryz.func48, Tryz.ntmps48
  go_wp2_with fail
  rw [HW.out]
  refine (codeOf_nil _).mono ?_
  rintro e w1 ⟨rfl, hb1⟩
  have HV1 : Hid (HoldV w1 w.heap.size #[.int .i64 x0, .int .i64 x1, .int .i64 x2, .slice a3 n3 c3] 34) := hide (HoldV.next (show HoldV W w.heap.size _ _ from HB.out.2.1) hb1)
  have HZ1 : Hid (HoldV w1 (w.heap.size + 1) #[.int .i64 0, .int .i64 0, .int .i64 0, .slice none 0 0] 34) := hide (HoldV.next (show HoldV W (w.heap.size + 1) _ _ from HB.out.2.2) hb1)
  have HBE := hide (HB.out.1.trans (hb1.mono HB.out.1.size))
  clear hb1 HB HW
  have k0 := HV1.out.cell 0 _ rfl
  have k1 := HV1.out.cell 1 _ rfl
  have k2 := HV1.out.cell 2 _ rfl
  have k3 := HV1.out.cell 3 _ rfl
  have d0 := HZ1.out.cell 0 _ rfl
  have d1 := HZ1.out.cell 1 _ rfl
  have d2 := HZ1.out.cell 2 _ rfl
  have d3 := HZ1.out.cell 3 _ rfl
  have fz := HZ1.out.frozen
  go_wp2_with fail
  exact bodyPost_ret (v := .tuple #[.agg #[.int .i64 x0, .int .i64 x1, .int .i64 x2, .slice a3 n3 c3], .int .i64 0]) (by simp [results, Tryz.results48, go_sem, d0, d1, d2, d3]) rfl ⟨rfl, ((((HBE.out.setCell (p := ⟨w.heap.size + 1, 0, none⟩) (Nat.le_succ _) _).setCell (p := ⟨w.heap.size + 1, 1, none⟩) (Nat.le_succ _) _).setCell (p := ⟨w.heap.size + 1, 2, none⟩) (Nat.le_succ _) _).setCell (p := ⟨w.heap.size + 1, 3, none⟩) (Nat.le_succ _) _)⟩
set_option maxHeartbeats 2000000 in
theorem ansIcmp_err (x0 : Int) (x1 : Int) (x2 : Int) (a3 : Option Addr) (n3 c3 : Nat) (c : Int) (hc0 : c ≠ 0) (w : World) (he : ErrT w) :
    Calls Tryz.prog 48 #[.agg #[.int .i64 x0, .int .i64 x1, .int .i64 x2, .slice a3 n3 c3], wErr c] w fun e w' => e = .returned (.tuple #[.agg #[.int .i64 0, .int .i64 0, .int .i64 0, .slice none 0 0], .int .i64 c]) ∧ Below w.heap.size w w' := by
  have hcb : (c != 0) = true := by simpa using hc0
  clear hc0
  have HB := hide (two_allocs w (.cells #[.int .i64 x0, .int .i64 x1, .int .i64 x2, .slice a3 n3 c3] 34) (.cells #[.int .i64 0, .int .i64 0, .int .i64 0, .slice none 0 0] 34))
  generalize hW : (w.alloc (.cells #[.int .i64 x0, .int .i64 x1, .int .i64 x2, .slice a3 n3 c3] 34)).alloc (.cells #[.int .i64 0, .int .i64 0, .int .i64 0, .slice none 0 0] 34) = W at *
  have HW := hide hW
  clear hW
  go_enter Tryz.func48, Tryz.ntmps48
  go_wp2_with fail
  rw [HW.out]
  refine (codeOf_err c _ (he.below HB.out.1 (Nat.le_refl _))).mono ?_
  rintro e w1 ⟨rfl, hb1⟩
  have HV1 : Hid (HoldV w1 w.heap.size #[.int .i64 x0, .int .i64 x1, .int .i64 x2, .slice a3 n3 c3] 34) := hide (HoldV.next (show HoldV W w.heap.size _ _ from HB.out.2.1) hb1)
  have HZ1 : Hid (HoldV w1 (w.heap.size + 1) #[.int .i64 0, .int .i64 0, .int .i64 0, .slice none 0 0] 34) := hide (HoldV.next (show HoldV W (w.heap.size + 1) _ _ from HB.out.2.2) hb1)
  have HBE := hide (HB.out.1.trans (hb1.mono HB.out.1.size))
  clear hb1 HB HW
  have hal := (Below.refl w1.heap.size w1).alloc (Nat.le_refl _) (.cells #[.int .i64 0, .int .i64 0, .int .i64 0, .slice none 0 0] 34)
  have HN2 : Hid (HoldV (w1.alloc (.cells #[.int .i64 0, .int .i64 0, .int .i64 0, .slice none 0 0] 34)) w1.heap.size #[.int .i64 0, .int .i64 0, .int .i64 0, .slice none 0 0] 34) := hide (heap_alloc_new _ _)
  have HZ2 := hide (HZ1.out.next hal)
  have HBE2 := hide (HBE.out.trans (hal.mono HBE.out.size))
  generalize hV : w1.alloc (.cells #[.int .i64 0, .int .i64 0, .int .i64 0, .slice none 0 0] 34) = V at *
  clear hal
  have n0 := HN2.out.cell 0 _ rfl
  have n1 := HN2.out.cell 1 _ rfl
  have n2 := HN2.out.cell 2 _ rfl
  have n3 := HN2.out.cell 3 _ rfl
  have d0 := HZ2.out.cell 0 _ rfl
  have d1 := HZ2.out.cell 1 _ rfl
  have d2 := HZ2.out.cell 2 _ rfl
  have d3 := HZ2.out.cell 3 _ rfl
  have fz := HZ2.out.frozen
  go_wp2_with fail
  exact bodyPost_ret (v := .tuple #[.agg #[.int .i64 0, .int .i64 0, .int .i64 0, .slice none 0 0], .int .i64 c]) (by simp [results, Tryz.results48, go_sem, d0, d1, d2, d3]) rfl ⟨rfl, ((((HBE2.out.setCell (p := ⟨w.heap.size + 1, 0, none⟩) (Nat.le_succ _) _).setCell (p := ⟨w.heap.size + 1, 1, none⟩) (Nat.le_succ _) _).setCell (p := ⟨w.heap.size + 1, 2, none⟩) (Nat.le_succ _) _).setCell (p := ⟨w.heap.size + 1, 3, none⟩) (Nat.le_succ _) _)⟩

set_option maxHeartbeats 2000000 in
theorem ansQuote_nil (x0 : Int) (x1 : Int) (x2 : Int) (x3 : Int) (x4 : Int) (x5 : Int) (x6 : Int) (w : World) :
    Calls Tryz.prog 51 #[.agg #[.int .i64 x0, .int .i64 x1, .int .i64 x2, .int .i64 x3, .int .i64 x4, .int .i64 x5, .int .i64 x6], .nilIface] w fun e w' => e = .returned (.tuple #[.agg #[.int .i64 x0, .int .i64 x1, .int .i64 x2, .int .i64 x3, .int .i64 x4, .int .i64 x5, .int .i64 x6], .int .i64 0]) ∧ Below w.heap.size w w' := by
  have HB := hide (two_allocs w (.cells #[.int .i64 x0, .int .i64 x1, .int .i64 x2, .int .i64 x3, .int .i64 x4, .int .i64 x5, .int .i64 x6] 39) (.cells #[.int .i64 0, .int .i64 0, .int .i64 0, .int .i64 0, .int .i64 0, .int .i64 0, .int .i64 0] 39))
  generalize hW : (w.alloc (.cells #[.int .i64 x0, .int .i64 x1, .int .i64 x2, .int .i64 x3, .int .i64 x4, .int .i64 x5, .int .i64 x6] 39)).alloc (.cells #[.int .i64 0, .int .i64 0, .int .i64 0, .int .i64 0, .int .i64 0, .int .i64 0, .int .i64 0] 39) = W at *
  have HW := hide hW
  clear hW
  go_enter Tryz.func51, Tryz.ntmps51
  go_wp2_with fail
  rw [HW.out]
  refine (codeOf_nil _).mono ?_
  rintro e w1 ⟨rfl, hb1⟩
  have HV1 : Hid (HoldV w1 w.heap.size #[.int .i64 x0, .int .i64 x1, .int .i64 x2, .int .i64 x3, .int .i64 x4, .int .i64 x5, .int .i64 x6] 39) := hide (HoldV.next (show HoldV W w.heap.size _ _ from HB.out.2.1) hb1)
  have HZ1 : Hid (HoldV w1 (w.heap.size + 1) #[.int .i64 0, .int .i64 0, .int .i64 0, .int .i64 0, .int .i64 0, .int .i64 0, .int .i64 0] 39) := hide (HoldV.next (show HoldV W (w.heap.size + 1) _ _ from HB.out.2.2) hb1)
  have HBE := hide (HB.out.1.trans (hb1.mono HB.out.1.size))
  clear hb1 HB HW
  have k0 := HV1.out.cell 0 _ rfl
  have k1 := HV1.out.cell 1 _ rfl
  have k2 := HV1.out.cell 2 _ rfl
  have k3 := HV1.out.cell 3 _ rfl
  have k4 := HV1.out.cell 4 _ rfl
  have k5 := HV1.out.cell 5 _ rfl
  have k6 := HV1.out.cell 6 _ rfl
  have d0 := HZ1.out.cell 0 _ rfl
  have d1 := HZ1.out.cell 1 _ rfl
  have d2 := HZ1.out.cell 2 _ rfl
  have d3 := HZ1.out.cell 3 _ rfl
  have d4 := HZ1.out.cell 4 _ rfl
  have d5 := HZ1.out.cell 5 _ rfl
  have d6 := HZ1.out.cell 6 _ rfl
  have fz := HZ1.out.frozen
  go_wp2_with fail
  exact bodyPost_ret (v := .tuple #[.agg #[.int .i64 x0, .int .i64 x1, .int .i64 x2, .int .i64 x3, .int .i64 x4, .int .i64 x5, .int .i64 x6], .int .i64 0]) (by simp [results, Tryz.results51, go_sem, d0, d1, d2, d3, d4, d5, d6]) rfl ⟨rfl, (((((((HBE.out.setCell (p := ⟨w.heap.size + 1, 0, none⟩) (Nat.le_succ _) _).setCell (p := ⟨w.heap.size + 1, 1, none⟩) (Nat.le_succ _) _).setCell (p := ⟨w.heap.size + 1, 2, none⟩) (Nat.le_succ _) _).setCell (p := ⟨w.heap.size + 1, 3, none⟩) (Nat.le_succ _) _).setCell (p := ⟨w.heap.size + 1, 4, none⟩) (Nat.le_succ _) _).setCell (p := ⟨w.heap.size + 1, 5, none⟩) (Nat.le_succ _) _).setCell (p := ⟨w.heap.size + 1, 6, none⟩) (Nat.le_succ _) _)⟩
set_option maxHeartbeats 2000000 in
theorem ansQuote_err (x0 : Int) (x1 : Int) (x2 : Int) (x3 : Int) (x4 : Int) (x5 : Int) (x6 : Int) (c : Int) (hc0 : c ≠ 0) (w : World) (he : ErrT w) :
    Calls Tryz.prog 51 #[.agg #[.int .i64 x0, .int .i64 x1, .int .i64 x2, .int .i64 x3, .int .i64 x4, .int .i64 x5, .int .i64 x6], wErr c] w fun e w' => e = .returned (.tuple #[.agg #[.int .i64 0, .int .i64 0, .int .i64 0, .int .i64 0, .int .i64 0, .int .i64 0, .int .i64 0], .int .i64 c]) ∧ Below w.heap.size w w' := by
  have hcb : (c != 0) = true := by simpa using hc0
  clear hc0
  have HB := hide (two_allocs w (.cells #[.int .i64 x0, .int .i64 x1, .int .i64 x2, .int .i64 x3, .int .i64 x4, .int .i64 x5, .int .i64 x6] 39) (.cells #[.int .i64 0, .int .i64 0, .int .i64 0, .int .i64 0, .int .i64 0, .int .i64 0, .int .i64 0] 39))
  generalize hW : (w.alloc (.cells #[.int .i64 x0, .int .i64 x1, .int .i64 x2, .int .i64 x3, .int .i64 x4, .int .i64 x5, .int .i64 x6] 39)).alloc (.cells #[.int .i64 0, .int .i64 0, .int .i64 0, .int .i64 0, .int .i64 0, .int .i64 0, .int .i64 0] 39) = W at *
  have HW := hide hW
  clear hW
  go_enter Tryz.func51, Tryz.ntmps51
  go_wp2_with fail
  rw [HW.out]
  refine (codeOf_err c _ (he.below HB.out.1 (Nat.le_refl _))).mono ?_
  rintro e w1 ⟨rfl, hb1⟩
  have HV1 : Hid (HoldV w1 w.heap.size #[.int .i64 x0, .int .i64 x1, .int .i64 x2, .int .i64 x3, .int .i64 x4, .int .i64 x5, .int .i64 x6] 39) := hide (HoldV.next (show HoldV W w.heap.size _ _ from HB.out.2.1) hb1)
  have HZ1 : Hid (HoldV w1 (w.heap.size + 1) #[.int .i64 0, .int .i64 0, .int .i64 0, .int .i64 0, .int .i64 0, .int .i64 0, .int .i64 0] 39) := hide (HoldV.next (show HoldV W (w.heap.size + 1) _ _ from HB.out.2.2) hb1)
  have HBE := hide (HB.out.1.trans (hb1.mono HB.out.1.size))
  clear hb1 HB HW
  have hal := (Below.refl w1.heap.size w1).alloc (Nat.le_refl _) (.cells #[.int .i64 0, .int .i64 0, .int .i64 0, .int .i64 0, .int .i64 0, .int .i64 0, .int .i64 0] 39)
  have HN2 : Hid (HoldV (w1.alloc (.cells #[.int .i64 0, .int .i64 0, .int .i64 0, .int .i64 0, .int .i64 0, .int .i64 0, .int .i64 0] 39)) w1.heap.size #[.int .i64 0, .int .i64 0, .int .i64 0, .int .i64 0, .int .i64 0, .int .i64 0, .int .i64 0] 39) := hide (heap_alloc_new _ _)
  have HZ2 := hide (HZ1.out.next hal)
  have HBE2 := hide (HBE.out.trans (hal.mono HBE.out.size))
  generalize hV : w1.alloc (.cells #[.int .i64 0, .int .i64 0, .int .i64 0, .int .i64 0, .int .i64 0, .int .i64 0, .int .i64 0] 39) = V at *
  clear hal
  have n0 := HN2.out.cell 0 _ rfl
  have n1 := HN2.out.cell 1 _ rfl
  have n2 := HN2.out.cell 2 _ rfl
  have n3 := HN2.out.cell 3 _ rfl
  have n4 := HN2.out.cell 4 _ rfl
  have n5 := HN2.out.cell 5 _ rfl
  have n6 := HN2.out.cell 6 _ rfl
  have d0 := HZ2.out.cell 0 _ rfl
  have d1 := HZ2.out.cell 1 _ rfl
  have d2 := HZ2.out.cell 2 _ rfl
  have d3 := HZ2.out.cell 3 _ rfl
  have d4 := HZ2.out.cell 4 _ rfl
  have d5 := HZ2.out.cell 5 _ rfl
  have d6 := HZ2.out.cell 6 _ rfl
  have fz := HZ2.out.frozen
  go_wp2_with fail
  exact bodyPost_ret (v := .tuple #[.agg #[.int .i64 0, .int .i64 0, .int .i64 0, .int .i64 0, .int .i64 0, .int .i64 0, .int .i64 0], .int .i64 c]) (by simp [results, Tryz.results51, go_sem, d0, d1, d2, d3, d4, d5, d6]) rfl ⟨rfl, (((((((HBE2.out.setCell (p := ⟨w.heap.size + 1, 0, none⟩) (Nat.le_succ _) _).setCell (p := ⟨w.heap.size + 1, 1, none⟩) (Nat.le_succ _) _).setCell (p := ⟨w.heap.size + 1, 2, none⟩) (Nat.le_succ _) _).setCell (p := ⟨w.heap.size + 1, 3, none⟩) (Nat.le_succ _) _).setCell (p := ⟨w.heap.size + 1, 4, none⟩) (Nat.le_succ _) _).setCell (p := ⟨w.heap.size + 1, 5, none⟩) (Nat.le_succ _) _).setCell (p := ⟨w.heap.size + 1, 6, none⟩) (Nat.le_succ _) _)⟩

set_option maxHeartbeats 2000000 in
theorem ansPacket_nil (x0 : Int) (x1 : Int) (x2 : Bool) (x3 : Bool) (x4 : Int) (x5 : Int) (x6 : Int) (x7 : Int) (x8 : Int) (a9 : Option Addr) (n9 c9 : Nat) (a10 : Option Addr) (n10 c10 : Nat) (w : World) :
    Calls Tryz.prog 41 #[.agg #[.int .i64 x0, .int .i64 x1, .bool x2, .bool x3, .int .i64 x4, .int .i64 x5, .int .i64 x6, .int .i64 x7, .int .i64 x8, .slice a9 n9 c9, .slice a10 n10 c10], .nilIface] w fun e w' => e = .returned (.tuple #[.agg #[.int .i64 x0, .int .i64 x1, .bool x2, .bool x3, .int .i64 x4, .int .i64 x5, .int .i64 x6, .int .i64 x7, .int .i64 x8, .slice a9 n9 c9, .slice a10 n10 c10], .int .i64 0]) ∧ Below w.heap.size w w' := by
  have HB := hide (two_allocs w (.cells #[.int .i64 x0, .int .i64 x1, .bool x2, .bool x3, .int .i64 x4, .int .i64 x5, .int .i64 x6, .int .i64 x7, .int .i64 x8, .slice a9 n9 c9, .slice a10 n10 c10] 24) (.cells #[.int .i64 0, .int .i64 0, .bool false, .bool false, .int .i64 0, .int .i64 0, .int .i64 0, .int .i64 0, .int .i64 0, .slice none 0 0, .slice none 0 0] 24))
  generalize hW : (w.alloc (.cells #[.int .i64 x0, .int .i64 x1, .bool x2, .bool x3, .int .i64 x4, .int .i64 x5, .int .i64 x6, .int .i64 x7, .int .i64 x8, .slice a9 n9 c9, .slice a10 n10 c10] 24)).alloc (.cells #[.int .i64 0, .int .i64 0, .bool false, .bool false, .int .i64 0, .int .i64 0, .int .i64 0, .int .i64 0, .int .i64 0, .slice none 0 0, .slice none 0 0] 24) = W at *
  have HW := hide hW
  clear hW
  go_enter Tryz.func41, Tryz.ntmps41
  go_wp2_with fail
  rw [HW.out]
  refine (codeOf_nil _).mono ?_
  rintro e w1 ⟨rfl, hb1⟩
  have HV1 : Hid (HoldV w1 w.heap.size #[.int .i64 x0, .int .i64 x1, .bool x2, .bool x3, .int .i64 x4, .int .i64 x5, .int .i64 x6, .int .i64 x7, .int .i64 x8, .slice a9 n9 c9, .slice a10 n10 c10] 24) := hide (HoldV.next (show HoldV W w.heap.size _ _ from HB.out.2.1) hb1)
  have HZ1 : Hid (HoldV w1 (w.heap.size + 1) #[.int .i64 0, .int .i64 0, .bool false, .bool false, .int .i64 0, .int .i64 0, .int .i64 0, .int .i64 0, .int .i64 0, .slice none 0 0, .slice none 0 0] 24) := hide (HoldV.next (show HoldV W (w.heap.size + 1) _ _ from HB.out.2.2) hb1)
  have HBE := hide (HB.out.1.trans (hb1.mono HB.out.1.size))
  clear hb1 HB HW
  have k0 := HV1.out.cell 0 _ rfl
  have k1 := HV1.out.cell 1 _ rfl
  have k2 := HV1.out.cell 2 _ rfl
  have k3 := HV1.out.cell 3 _ rfl
  have k4 := HV1.out.cell 4 _ rfl
  have k5 := HV1.out.cell 5 _ rfl
  have k6 := HV1.out.cell 6 _ rfl
  have k7 := HV1.out.cell 7 _ rfl
  have k8 := HV1.out.cell 8 _ rfl
  have k9 := HV1.out.cell 9 _ rfl
  have k10 := HV1.out.cell 10 _ rfl
  have d0 := HZ1.out.cell 0 _ rfl
  have d1 := HZ1.out.cell 1 _ rfl
  have d2 := HZ1.out.cell 2 _ rfl
  have d3 := HZ1.out.cell 3 _ rfl
  have d4 := HZ1.out.cell 4 _ rfl
  have d5 := HZ1.out.cell 5 _ rfl
  have d6 := HZ1.out.cell 6 _ rfl
  have d7 := HZ1.out.cell 7 _ rfl
  have d8 := HZ1.out.cell 8 _ rfl
  have d9 := HZ1.out.cell 9 _ rfl
  have d10 := HZ1.out.cell 10 _ rfl
  have fz := HZ1.out.frozen
  go_wp2_with fail
  exact bodyPost_ret (v := .tuple #[.agg #[.int .i64 x0, .int .i64 x1, .bool x2, .bool x3, .int .i64 x4, .int .i64 x5, .int .i64 x6, .int .i64 x7, .int .i64 x8, .slice a9 n9 c9, .slice a10 n10 c10], .int .i64 0]) (by simp [results, Tryz.results41, go_sem, d0, d1, d2, d3, d4, d5, d6, d7, d8, d9, d10]) rfl ⟨rfl, (((((((((((HBE.out.setCell (p := ⟨w.heap.size + 1, 0, none⟩) (Nat.le_succ _) _).setCell (p := ⟨w.heap.size + 1, 1, none⟩) (Nat.le_succ _) _).setCell (p := ⟨w.heap.size + 1, 2, none⟩) (Nat.le_succ _) _).setCell (p := ⟨w.heap.size + 1, 3, none⟩) (Nat.le_succ _) _).setCell (p := ⟨w.heap.size + 1, 4, none⟩) (Nat.le_succ _) _).setCell (p := ⟨w.heap.size + 1, 5, none⟩) (Nat.le_succ _) _).setCell (p := ⟨w.heap.size + 1, 6, none⟩) (Nat.le_succ _) _).setCell (p := ⟨w.heap.size + 1, 7, none⟩) (Nat.le_succ _) _).setCell (p := ⟨w.heap.size + 1, 8, none⟩) (Nat.le_succ _) _).setCell (p := ⟨w.heap.size + 1, 9, none⟩) (Nat.le_succ _) _).setCell (p := ⟨w.heap.size + 1, 10, none⟩) (Nat.le_succ _) _)⟩
set_option maxHeartbeats 2000000 in
theorem ansPacket_err (x0 : Int) (x1 : Int) (x2 : Bool) (x3 : Bool) (x4 : Int) (x5 : Int) (x6 : Int) (x7 : Int) (x8 : Int) (a9 : Option Addr) (n9 c9 : Nat) (a10 : Option Addr) (n10 c10 : Nat) (c : Int) (hc0 : c ≠ 0) (w : World) (he : ErrT w) :
    Calls Tryz.prog 41 #[.agg #[.int .i64 x0, .int .i64 x1, .bool x2, .bool x3, .int .i64 x4, .int .i64 x5, .int .i64 x6, .int .i64 x7, .int .i64 x8, .slice a9 n9 c9, .slice a10 n10 c10], wErr c] w fun e w' => e = .returned (.tuple #[.agg #[.int .i64 0, .int .i64 0, .bool false, .bool false, .int .i64 0, .int .i64 0, .int .i64 0, .int .i64 0, .int .i64 0, .slice none 0 0, .slice none 0 0], .int .i64 c]) ∧ Below w.heap.size w w' := by
  have hcb : (c != 0) = true := by simpa using hc0
  clear hc0
  have HB := hide (two_allocs w (.cells #[.int .i64 x0, .int .i64 x1, .bool x2, .bool x3, .int .i64 x4, .int .i64 x5, .int .i64 x6, .int .i64 x7, .int .i64 x8, .slice a9 n9 c9, .slice a10 n10 c10] 24) (.cells #[.int .i64 0, .int .i64 0, .bool false, .bool false, .int .i64 0, .int .i64 0, .int .i64 0, .int .i64 0, .int .i64 0, .slice none 0 0, .slice none 0 0] 24))
  generalize hW : (w.alloc (.cells #[.int .i64 x0, .int .i64 x1, .bool x2, .bool x3, .int .i64 x4, .int .i64 x5, .int .i64 x6, .int .i64 x7, .int .i64 x8, .slice a9 n9 c9, .slice a10 n10 c10] 24)).alloc (.cells #[.int .i64 0, .int .i64 0, .bool false, .bool false, .int .i64 0, .int .i64 0, .int .i64 0, .int .i64 0, .int .i64 0, .slice none 0 0, .slice none 0 0] 24) = W at *
  have HW := hide hW
  clear hW
  go_enter Tryz.func41, Tryz.ntmps41
  go_wp2_with fail
  rw [HW.out]
  refine (codeOf_err c _ (he.below HB.out.1 (Nat.le_refl _))).mono ?_
  rintro e w1 ⟨rfl, hb1⟩
  have HV1 : Hid (HoldV w1 w.heap.size #[.int .i64 x0, .int .i64 x1, .bool x2, .bool x3, .int .i64 x4, .int .i64 x5, .int .i64 x6, .int .i64 x7, .int .i64 x8, .slice a9 n9 c9, .slice a10 n10 c10] 24) := hide (HoldV.next (show HoldV W w.heap.size _ _ from HB.out.2.1) hb1)
  have HZ1 : Hid (HoldV w1 (w.heap.size + 1) #[.int .i64 0, .int .i64 0, .bool false, .bool false, .int .i64 0, .int .i64 0, .int .i64 0, .int .i64 0, .int .i64 0, .slice none 0 0, .slice none 0 0] 24) := hide (HoldV.next (show HoldV W (w.heap.size + 1) _ _ from HB.out.2.2) hb1)
  have HBE := hide (HB.out.1.trans (hb1.mono HB.out.1.size))
  clear hb1 HB HW
  have hal := (Below.refl w1.heap.size w1).alloc (Nat.le_refl _) (.cells #[.int .i64 0, .int .i64 0, .bool false, .bool false, .int .i64 0, .int .i64 0, .int .i64 0, .int .i64 0, .int .i64 0, .slice none 0 0, .slice none 0 0] 24)
  have HN2 : Hid (HoldV (w1.alloc (.cells #[.int .i64 0, .int .i64 0, .bool false, .bool false, .int .i64 0, .int .i64 0, .int .i64 0, .int .i64 0, .int .i64 0, .slice none 0 0, .slice none 0 0] 24)) w1.heap.size #[.int .i64 0, .int .i64 0, .bool false, .bool false, .int .i64 0, .int .i64 0, .int .i64 0, .int .i64 0, .int .i64 0, .slice none 0 0, .slice none 0 0] 24) := hide (heap_alloc_new _ _)
  have HZ2 := hide (HZ1.out.next hal)
  have HBE2 := hide (HBE.out.trans (hal.mono HBE.out.size))
  generalize hV : w1.alloc (.cells #[.int .i64 0, .int .i64 0, .bool false, .bool false, .int .i64 0, .int .i64 0, .int .i64 0, .int .i64 0, .int .i64 0, .slice none 0 0, .slice none 0 0] 24) = V at *
  clear hal
  have n0 := HN2.out.cell 0 _ rfl
  have n1 := HN2.out.cell 1 _ rfl
  have n2 := HN2.out.cell 2 _ rfl
  have n3 := HN2.out.cell 3 _ rfl
  have n4 := HN2.out.cell 4 _ rfl
  have n5 := HN2.out.cell 5 _ rfl
  have n6 := HN2.out.cell 6 _ rfl
  have n7 := HN2.out.cell 7 _ rfl
  have n8 := HN2.out.cell 8 _ rfl
  have n9 := HN2.out.cell 9 _ rfl
  have n10 := HN2.out.cell 10 _ rfl
  have d0 := HZ2.out.cell 0 _ rfl
  have d1 := HZ2.out.cell 1 _ rfl
  have d2 := HZ2.out.cell 2 _ rfl
  have d3 := HZ2.out.cell 3 _ rfl
  have d4 := HZ2.out.cell 4 _ rfl
  have d5 := HZ2.out.cell 5 _ rfl
  have d6 := HZ2.out.cell 6 _ rfl
  have d7 := HZ2.out.cell 7 _ rfl
  have d8 := HZ2.out.cell 8 _ rfl
  have d9 := HZ2.out.cell 9 _ rfl
  have d10 := HZ2.out.cell 10 _ rfl
  have fz := HZ2.out.frozen
  go_wp2_with fail
  exact bodyPost_ret (v := .tuple #[.agg #[.int .i64 0, .int .i64 0, .bool false, .bool false, .int .i64 0, .int .i64 0, .int .i64 0, .int .i64 0, .int .i64 0, .slice none 0 0, .slice none 0 0], .int .i64 c]) (by simp [results, Tryz.results41, go_sem, d0, d1, d2, d3, d4, d5, d6, d7, d8, d9, d10]) rfl ⟨rfl, (((((((((((HBE2.out.setCell (p := ⟨w.heap.size + 1, 0, none⟩) (Nat.le_succ _) _).setCell (p := ⟨w.heap.size + 1, 1, none⟩) (Nat.le_succ _) _).setCell (p := ⟨w.heap.size + 1, 2, none⟩) (Nat.le_succ _) _).setCell (p := ⟨w.heap.size + 1, 3, none⟩) (Nat.le_succ _) _).setCell (p := ⟨w.heap.size + 1, 4, none⟩) (Nat.le_succ _) _).setCell (p := ⟨w.heap.size + 1, 5, none⟩) (Nat.le_succ _) _).setCell (p := ⟨w.heap.size + 1, 6, none⟩) (Nat.le_succ _) _).setCell (p := ⟨w.heap.size + 1, 7, none⟩) (Nat.le_succ _) _).setCell (p := ⟨w.heap.size + 1, 8, none⟩) (Nat.le_succ _) _).setCell (p := ⟨w.heap.size + 1, 9, none⟩) (Nat.le_succ _) _).setCell (p := ⟨w.heap.size + 1, 10, none⟩) (Nat.le_succ _) _)⟩
set_option maxRecDepth 100000
def inB (x l h : Int) : Bool := decide (l ≤ x ∧ x ≤ h)
theorem inB_iff {x l h : Int} : inB x l h = true ↔ l ≤ x ∧ x ≤ h := by unfold inB; simp
theorem In_walk (n l h : Int) (w : World) :
    Calls Tryz.prog 19 #[.int .i64 n, .int .i64 l, .int .i64 h] w fun e w' => e = .returned (.bool (inB n l h)) ∧ w' = w := by
  by_cases hh : l ≤ n ∧ n ≤ h
  · rw [inB_iff.2 hh]; exact In_yes n l h w hh
  · rw [show inB n l h = false by unfold inB; exact decide_eq_false hh]; exact In_no n l h w hh

/-- What a packet's numbers must be. -/
def pkOK (x0 x1 x4 x5 x6 x7 x8 : Int) (n0 : Nat) : Bool := inB x0 0 255 && inB x5 0 255 && inB x6 0 255 && inB x1 0 65535 && inB x4 0 65528 && (x4 % 8 == 0) && adrB x7 && adrB x8 && decide (n0 ≤ 40) && (n0 % 4 == 0)
set_option maxHeartbeats 4000000 in
theorem l05OK_walk (x0 x1 : Int) (x2 x3 : Bool) (x4 x5 x6 x7 x8 : Int) (a0 : Option Addr) (n0 c0 : Nat) (a1 : Option Addr) (n1 c1 : Nat) (w : World) (m0 : n0 ≤ 1048576) :
    Calls Tryz.prog 57 #[.agg #[.int .i64 x0, .int .i64 x1, .bool x2, .bool x3, .int .i64 x4, .int .i64 x5, .int .i64 x6, .int .i64 x7, .int .i64 x8, .slice a0 n0 c0, .slice a1 n1 c1]] w fun e w' => e = .returned (.bool (pkOK x0 x1 x4 x5 x6 x7 x8 n0)) ∧ Below w.heap.size w w' := by
  have HB := hide (BoxPacket.start w x0 x1 x2 x3 x4 x5 x6 x7 x8 (.slice a0 n0 c0) (.slice a1 n1 c1) 24)
  obtain ⟨_, _, k0, k1, k2, k3, k4, k5, k6, k7, k8, k9, k10⟩ := HB.out
  cases h0 : inB x0 0 255 with
  | false =>
    have E : Hid (pkOK x0 x1 x4 x5 x6 x7 x8 n0 = false) := hide (by unfold pkOK; rw [h0]; simp)
    go_enter Tryz.func57, Tryz.ntmps57
    go_wp2_with (first | (go_at_call 19; refine (In_walk _ _ _ _).mono ?_; rintro e w' ⟨rfl, rfl⟩) | (go_at_call 18; refine (specAddrOK_walk _ _).mono ?_; rintro e w' ⟨rfl, rfl⟩))
    go_ret
    first | exact ⟨ret_bool E.out.symm, HB.out.1⟩ | exact ⟨ret_bool (by rw [E.out]; first | exact beq_iff_eq.2 h9 | exact beq_eq_false_iff_ne.2 h9), HB.out.1⟩
  | true =>
    cases h1 : inB x5 0 255 with
    | false =>
      have E : Hid (pkOK x0 x1 x4 x5 x6 x7 x8 n0 = false) := hide (by unfold pkOK; rw [h1]; simp)
      go_enter Tryz.func57, Tryz.ntmps57
      go_wp2_with (first | (go_at_call 19; refine (In_walk _ _ _ _).mono ?_; rintro e w' ⟨rfl, rfl⟩) | (go_at_call 18; refine (specAddrOK_walk _ _).mono ?_; rintro e w' ⟨rfl, rfl⟩))
      go_ret
      first | exact ⟨ret_bool E.out.symm, HB.out.1⟩ | exact ⟨ret_bool (by rw [E.out]; first | exact beq_iff_eq.2 h9 | exact beq_eq_false_iff_ne.2 h9), HB.out.1⟩
    | true =>
      cases h2 : inB x6 0 255 with
      | false =>
        have E : Hid (pkOK x0 x1 x4 x5 x6 x7 x8 n0 = false) := hide (by unfold pkOK; rw [h2]; simp)
        go_enter Tryz.func57, Tryz.ntmps57
        go_wp2_with (first | (go_at_call 19; refine (In_walk _ _ _ _).mono ?_; rintro e w' ⟨rfl, rfl⟩) | (go_at_call 18; refine (specAddrOK_walk _ _).mono ?_; rintro e w' ⟨rfl, rfl⟩))
        go_ret
        first | exact ⟨ret_bool E.out.symm, HB.out.1⟩ | exact ⟨ret_bool (by rw [E.out]; first | exact beq_iff_eq.2 h9 | exact beq_eq_false_iff_ne.2 h9), HB.out.1⟩
      | true =>
        cases h3 : inB x1 0 65535 with
        | false =>
          have E : Hid (pkOK x0 x1 x4 x5 x6 x7 x8 n0 = false) := hide (by unfold pkOK; rw [h3]; simp)
          go_enter Tryz.func57, Tryz.ntmps57
          go_wp2_with (first | (go_at_call 19; refine (In_walk _ _ _ _).mono ?_; rintro e w' ⟨rfl, rfl⟩) | (go_at_call 18; refine (specAddrOK_walk _ _).mono ?_; rintro e w' ⟨rfl, rfl⟩))
          go_ret
          first | exact ⟨ret_bool E.out.symm, HB.out.1⟩ | exact ⟨ret_bool (by rw [E.out]; first | exact beq_iff_eq.2 h9 | exact beq_eq_false_iff_ne.2 h9), HB.out.1⟩
        | true =>
          cases h4 : inB x4 0 65528 with
          | false =>
            have E : Hid (pkOK x0 x1 x4 x5 x6 x7 x8 n0 = false) := hide (by unfold pkOK; rw [h4]; simp)
            go_enter Tryz.func57, Tryz.ntmps57
            go_wp2_with (first | (go_at_call 19; refine (In_walk _ _ _ _).mono ?_; rintro e w' ⟨rfl, rfl⟩) | (go_at_call 18; refine (specAddrOK_walk _ _).mono ?_; rintro e w' ⟨rfl, rfl⟩))
            go_ret
            first | exact ⟨ret_bool E.out.symm, HB.out.1⟩ | exact ⟨ret_bool (by rw [E.out]; first | exact beq_iff_eq.2 h9 | exact beq_eq_false_iff_ne.2 h9), HB.out.1⟩
          | true =>
            obtain ⟨r0, r1⟩ := inB_iff.1 h4
            by_cases h5 : x4 % 8 = 0
            rotate_left
            · have E : Hid (pkOK x0 x1 x4 x5 x6 x7 x8 n0 = false) := hide (by unfold pkOK; rw [show (x4 % 8 == 0) = false by simp [h5]]; simp)
              go_enter Tryz.func57, Tryz.ntmps57
              go_wp2_with (first | (go_at_call 19; refine (In_walk _ _ _ _).mono ?_; rintro e w' ⟨rfl, rfl⟩) | (go_at_call 18; refine (specAddrOK_walk _ _).mono ?_; rintro e w' ⟨rfl, rfl⟩))
              go_ret
              first | exact ⟨ret_bool E.out.symm, HB.out.1⟩ | exact ⟨ret_bool (by rw [E.out]; first | exact beq_iff_eq.2 h9 | exact beq_eq_false_iff_ne.2 h9), HB.out.1⟩
            cases h6 : adrB x7 with
            | false =>
              have E : Hid (pkOK x0 x1 x4 x5 x6 x7 x8 n0 = false) := hide (by unfold pkOK; rw [h6]; simp)
              go_enter Tryz.func57, Tryz.ntmps57
              go_wp2_with (first | (go_at_call 19; refine (In_walk _ _ _ _).mono ?_; rintro e w' ⟨rfl, rfl⟩) | (go_at_call 18; refine (specAddrOK_walk _ _).mono ?_; rintro e w' ⟨rfl, rfl⟩))
              go_ret
              first | exact ⟨ret_bool E.out.symm, HB.out.1⟩ | exact ⟨ret_bool (by rw [E.out]; first | exact beq_iff_eq.2 h9 | exact beq_eq_false_iff_ne.2 h9), HB.out.1⟩
            | true =>
              cases h7 : adrB x8 with
              | false =>
                have E : Hid (pkOK x0 x1 x4 x5 x6 x7 x8 n0 = false) := hide (by unfold pkOK; rw [h7]; simp)
                go_enter Tryz.func57, Tryz.ntmps57
                go_wp2_with (first | (go_at_call 19; refine (In_walk _ _ _ _).mono ?_; rintro e w' ⟨rfl, rfl⟩) | (go_at_call 18; refine (specAddrOK_walk _ _).mono ?_; rintro e w' ⟨rfl, rfl⟩))
                go_ret
                first | exact ⟨ret_bool E.out.symm, HB.out.1⟩ | exact ⟨ret_bool (by rw [E.out]; first | exact beq_iff_eq.2 h9 | exact beq_eq_false_iff_ne.2 h9), HB.out.1⟩
              | true =>
                by_cases h8 : (n0 : Int) ≤ 40
                rotate_left
                · have E : Hid (pkOK x0 x1 x4 x5 x6 x7 x8 n0 = false) := hide (by unfold pkOK; rw [show decide (n0 ≤ 40) = false from decide_eq_false (by omega)]; simp)
                  go_enter Tryz.func57, Tryz.ntmps57
                  go_wp2_with (first | (go_at_call 19; refine (In_walk _ _ _ _).mono ?_; rintro e w' ⟨rfl, rfl⟩) | (go_at_call 18; refine (specAddrOK_walk _ _).mono ?_; rintro e w' ⟨rfl, rfl⟩))
                  go_ret
                  first | exact ⟨ret_bool E.out.symm, HB.out.1⟩ | exact ⟨ret_bool (by rw [E.out]; first | exact beq_iff_eq.2 h9 | exact beq_eq_false_iff_ne.2 h9), HB.out.1⟩
                by_cases h9 : (n0 : Int) % 4 = 0
                rotate_left
                · have E : Hid (pkOK x0 x1 x4 x5 x6 x7 x8 n0 = false) := hide (by unfold pkOK; rw [show (n0 % 4 == 0) = false by rw [beq_eq_false_iff_ne]; omega]; simp)
                  go_enter Tryz.func57, Tryz.ntmps57
                  go_wp2_with (first | (go_at_call 19; refine (In_walk _ _ _ _).mono ?_; rintro e w' ⟨rfl, rfl⟩) | (go_at_call 18; refine (specAddrOK_walk _ _).mono ?_; rintro e w' ⟨rfl, rfl⟩))
                  go_ret
                  first | exact ⟨ret_bool E.out.symm, HB.out.1⟩ | exact ⟨ret_bool (by rw [E.out]; first | exact beq_iff_eq.2 h9 | exact beq_eq_false_iff_ne.2 h9), HB.out.1⟩
                have E : Hid (pkOK x0 x1 x4 x5 x6 x7 x8 n0 = true) := hide (by unfold pkOK; rw [h0, h1, h2, h3, h4, h6, h7, show (x4 % 8 == 0) = true by simp [h5], show decide (n0 ≤ 40) = true from decide_eq_true (by omega), show (n0 % 4 == 0) = true by rw [beq_iff_eq]; omega]; rfl)
                go_enter Tryz.func57, Tryz.ntmps57
                go_wp2_with (first | (go_at_call 19; refine (In_walk _ _ _ _).mono ?_; rintro e w' ⟨rfl, rfl⟩) | (go_at_call 18; refine (specAddrOK_walk _ _).mono ?_; rintro e w' ⟨rfl, rfl⟩))
                go_ret
                first | exact ⟨ret_bool E.out.symm, HB.out.1⟩ | exact ⟨ret_bool (by rw [E.out]; first | exact beq_iff_eq.2 h9 | exact beq_eq_false_iff_ne.2 h9), HB.out.1⟩
set_option maxRecDepth 100000
theorem isAddr_walk (a : Int) (w : World) :
    Calls Tryz.prog 26 #[.int .i64 a] w fun e w' => e = .returned (.bool (adrB a)) ∧ w' = w := by
  by_cases h1 : 0 ≤ a
  · by_cases h2 : a ≤ 4294967295
    · have e := hide (adrB_iff.2 ⟨h1, h2⟩)
      go_enter Tryz.func26, Tryz.ntmps26
      go_wp2
      go_ret
      exact ⟨ret_bool e.out.symm, rfl⟩
    · have e : Hid (adrB a = false) := hide (by unfold adrB; simp; omega)
      go_enter Tryz.func26, Tryz.ntmps26
      go_wp2
      go_ret
      exact ⟨ret_bool e.out.symm, rfl⟩
  · have e : Hid (adrB a = false) := hide (by unfold adrB; simp; omega)
    go_enter Tryz.func26, Tryz.ntmps26
    go_wp2
    go_ret
    exact ⟨ret_bool e.out.symm, rfl⟩

theorem fits_eq (x d m : Int) (hd : 0 < d) (hm : m = d - 1) : (x / d == 0) = inB x 0 m := by
  unfold inB
  rw [Bool.eq_iff_iff, beq_iff_eq, decide_eq_true_iff]
  constructor
  · intro h
    have h1 := Int.mul_ediv_add_emod x d
    have h2 := Int.emod_nonneg x (Int.ne_of_gt hd)
    have h3 := Int.emod_lt_of_pos x hd
    rw [h, Int.mul_zero] at h1
    omega
  · rintro ⟨h1, h2⟩
    exact Int.ediv_eq_zero_of_lt h1 (by omega)
theorem mod4_eq (n : Nat) : ((n : Int) % 4 == 0) = (n % 4 == 0) := by
  rw [Bool.eq_iff_iff, beq_iff_eq, beq_iff_eq]
  omega
theorem fits1_walk (x : Int) (w : World) : Calls Tryz.prog 66 #[.int .i64 1, .int .i64 x] w fun e w' => e = .returned (.bool (inB x 0 255)) ∧ w' = w := by
  go_enter Tryz.func66, Tryz.ntmps66
  go_wp2
  go_ret
  exact ⟨ret_bool (fits_eq x 256 255 (by omega) (by omega)), rfl⟩
theorem fits2_walk (x : Int) (w : World) : Calls Tryz.prog 66 #[.int .i64 2, .int .i64 x] w fun e w' => e = .returned (.bool (inB x 0 65535)) ∧ w' = w := by
  go_enter Tryz.func66, Tryz.ntmps66
  go_wp2
  go_ret
  exact ⟨ret_bool (fits_eq x 65536 65535 (by omega) (by omega)), rfl⟩
def plB (x : Int) : Bool := inB x 0 65528 && (x % 8 == 0)
def ooB (n : Nat) : Bool := decide (n ≤ 40) && (n % 4 == 0)
theorem isPlace_walk (x : Int) (w : World) : Calls Tryz.prog 67 #[.int .i64 x] w fun e w' => e = .returned (.bool (plB x)) ∧ w' = w := by
  by_cases h1 : 0 ≤ x
  · by_cases h2 : x ≤ 65528
    · have E := hide (inB_iff.2 ⟨h1, h2⟩)
      go_enter Tryz.func67, Tryz.ntmps67
      go_wp2
      go_ret
      exact ⟨ret_bool (by unfold plB; rw [E.out, Bool.true_and]), rfl⟩
    · have E : Hid (inB x 0 65528 = false) := hide (by unfold inB; simp; omega)
      go_enter Tryz.func67, Tryz.ntmps67
      go_wp2
      go_ret
      exact ⟨ret_bool (by unfold plB; rw [E.out]; rfl), rfl⟩
  · have E : Hid (inB x 0 65528 = false) := hide (by unfold inB; simp; omega)
    go_enter Tryz.func67, Tryz.ntmps67
    go_wp2
    go_ret
    exact ⟨ret_bool (by unfold plB; rw [E.out]; rfl), rfl⟩
theorem validOptions_walk (a : Option Addr) (n cap : Nat) (w : World) (hm : n ≤ 1048576) : Calls Tryz.prog 68 #[.slice a n cap] w fun e w' => e = .returned (.bool (ooB n)) ∧ w' = w := by
  by_cases h1 : n ≤ 40
  · have h1' : (n : Int) ≤ 40 := by omega
    have E := hide h1
    go_enter Tryz.func68, Tryz.ntmps68
    go_wp2
    go_ret
    exact ⟨ret_bool (by unfold ooB; rw [decide_eq_true E.out, Bool.true_and]; exact mod4_eq n), rfl⟩
  · have h1' : ¬ (n : Int) ≤ 40 := by omega
    have E := hide h1
    clear h1
    go_enter Tryz.func68, Tryz.ntmps68
    go_wp2
    go_ret
    exact ⟨ret_bool (by unfold ooB; rw [decide_eq_false E.out]; rfl), rfl⟩
theorem within_walk (x : Int) (a : Option Addr) (n cap : Nat) (w : World) (hm : n ≤ 1048576) (h0 : 0 ≤ x) (h1 : x ≤ 65536) : Calls Tryz.prog 69 #[.int .i64 x, .slice a n cap] w fun e w' => e = .returned (.bool (decide (x + (n : Int) ≤ 65535))) ∧ w' = w := by
  go_enter Tryz.func69, Tryz.ntmps69
  go_wp2
  go_ret
  exact ⟨rfl, rfl⟩
theorem within_any (x : Int) (a : Option Addr) (n cap : Nat) (w : World) : Calls Tryz.prog 69 #[.int .i64 x, .slice a n cap] w fun e w' => (∃ b : Bool, e = .returned (.bool b)) ∧ w' = w := by
  go_enter Tryz.func69, Tryz.ntmps69
  go_wp2
  go_ret
  exact ⟨⟨_, rfl⟩, rfl⟩
theorem BoxPacket.b {w0 w : World} {x0 : Int} {x1 : Int} {x2 : Bool} {x3 : Bool} {x4 : Int} {x5 : Int} {x6 : Int} {x7 : Int} {x8 : Int} {v0 : Value} {v1 : Value} (h : BoxPacket w0 w x0 x1 x2 x3 x4 x5 x6 x7 x8 v0 v1) : Below w0.heap.size w0 w := h.1
theorem headLength_walk (x0 x1 : Int) (x2 x3 : Bool) (x4 x5 x6 x7 x8 : Int) (a0 : Option Addr) (n0 c0 : Nat) (a1 : Option Addr) (n1 c1 : Nat) (w : World) (m0 : n0 ≤ 1048576) :
    Calls Tryz.prog 64 #[.agg #[.int .i64 x0, .int .i64 x1, .bool x2, .bool x3, .int .i64 x4, .int .i64 x5, .int .i64 x6, .int .i64 x7, .int .i64 x8, .slice a0 n0 c0, .slice a1 n1 c1]] w fun e w' => e = .returned (.int .i64 (20 + (n0 : Int))) ∧ Below w.heap.size w w' := by
  have HB := hide (BoxPacket.start w x0 x1 x2 x3 x4 x5 x6 x7 x8 (.slice a0 n0 c0) (.slice a1 n1 c1) 24)
  obtain ⟨_, _, k0, k1, k2, k3, k4, k5, k6, k7, k8, k9, k10⟩ := HB.out
  go_enter Tryz.func64, Tryz.ntmps64
  go_wp2
  go_ret
  exact ⟨rfl, HB.out.1⟩
theorem headAndPayload_walk (x0 x1 : Int) (x2 x3 : Bool) (x4 x5 x6 x7 x8 : Int) (a0 : Option Addr) (n0 c0 : Nat) (a1 : Option Addr) (n1 c1 : Nat) (w : World) (m0 : n0 ≤ 1048576) (m1 : n1 ≤ 1048576) :
    Calls Tryz.prog 35 #[.agg #[.int .i64 x0, .int .i64 x1, .bool x2, .bool x3, .int .i64 x4, .int .i64 x5, .int .i64 x6, .int .i64 x7, .int .i64 x8, .slice a0 n0 c0, .slice a1 n1 c1]] w fun e w' => e = .returned (.int .i64 (20 + (n0 : Int) + (n1 : Int))) ∧ Below w.heap.size w w' := by
  have HB := hide (BoxPacket.start w x0 x1 x2 x3 x4 x5 x6 x7 x8 (.slice a0 n0 c0) (.slice a1 n1 c1) 24)
  have CL := hide (fun W => headLength_walk x0 x1 x2 x3 x4 x5 x6 x7 x8 a0 n0 c0 a1 n1 c1 W m0)
  obtain ⟨_, _, k0, k1, k2, k3, k4, k5, k6, k7, k8, k9, k10⟩ := HB.out
  go_enter Tryz.func35, Tryz.ntmps35
  go_wp2_with fail
  clear k0 k1 k2 k3 k4 k5 k6 k7 k8 k9 k10
  generalize w.alloc _ = W at *
  go_region_held3 (fun w' => BoxPacket w w' x0 x1 x2 x3 x4 x5 x6 x7 x8 (.slice a0 n0 c0) (.slice a1 n1 c1)) (first | assumption | exact BoxPacket.next (by assumption) (by assumption) | exact HB.out.drew)
      (first
        | (go_at_call 64; refine (CL.out _).mono ?_; rintro e w' ⟨rfl, hbp⟩))
  all_goals (go_wp2_with fail; go_ret; exact ⟨ret_int (wrap_i64' _ (by omega) (by omega)), BoxPacket.b (by assumption)⟩)
theorem pkOK_eight (x0 x1 x4 x5 x6 x7 x8 : Int) (n0 : Nat) : pkOK x0 x1 x4 x5 x6 x7 x8 n0 = (inB x0 0 255 && inB x5 0 255 && inB x6 0 255 && inB x1 0 65535 && plB x4 && adrB x7 && adrB x8 && ooB n0) := by
  unfold pkOK plB ooB
  simp only [Bool.and_assoc]
set_option maxHeartbeats 4000000 in
theorem validPacket_walk (x0 x1 : Int) (x2 x3 : Bool) (x4 x5 x6 x7 x8 : Int) (a0 : Option Addr) (n0 c0 : Nat) (a1 : Option Addr) (n1 c1 : Nat) (w : World) (m0 : n0 ≤ 1048576) :
    Calls Tryz.prog 32 #[.agg #[.int .i64 x0, .int .i64 x1, .bool x2, .bool x3, .int .i64 x4, .int .i64 x5, .int .i64 x6, .int .i64 x7, .int .i64 x8, .slice a0 n0 c0, .slice a1 n1 c1]] w fun e w' => e = .returned (.bool (pkOK x0 x1 x4 x5 x6 x7 x8 n0)) ∧ Below w.heap.size w w' := by
  have HB := hide (BoxPacket.start w x0 x1 x2 x3 x4 x5 x6 x7 x8 (.slice a0 n0 c0) (.slice a1 n1 c1) 24)
  obtain ⟨_, _, k0, k1, k2, k3, k4, k5, k6, k7, k8, k9, k10⟩ := HB.out
  cases h0 : inB x0 0 255 with
  | false =>
    have E : Hid (pkOK x0 x1 x4 x5 x6 x7 x8 n0 = false) := hide (by rw [pkOK_eight, h0]; simp)
    go_enter Tryz.func32, Tryz.ntmps32
    go_wp2_with (first | (go_at_call_of 66 (Value.int IntKind.i64 1); refine (fits1_walk _ _).mono ?_; rintro e w' ⟨rfl, rfl⟩) | (go_at_call_of 66 (Value.int IntKind.i64 2); refine (fits2_walk _ _).mono ?_; rintro e w' ⟨rfl, rfl⟩) | (go_at_call 67; refine (isPlace_walk _ _).mono ?_; rintro e w' ⟨rfl, rfl⟩) | (go_at_call 26; refine (isAddr_walk _ _).mono ?_; rintro e w' ⟨rfl, rfl⟩) | (go_at_call 68; refine (validOptions_walk _ _ _ _ m0).mono ?_; rintro e w' ⟨rfl, rfl⟩))
    go_ret
    exact ⟨ret_bool E.out.symm, HB.out.1⟩
  | true =>
    cases h1 : inB x5 0 255 with
    | false =>
      have E : Hid (pkOK x0 x1 x4 x5 x6 x7 x8 n0 = false) := hide (by rw [pkOK_eight, h1]; simp)
      go_enter Tryz.func32, Tryz.ntmps32
      go_wp2_with (first | (go_at_call_of 66 (Value.int IntKind.i64 1); refine (fits1_walk _ _).mono ?_; rintro e w' ⟨rfl, rfl⟩) | (go_at_call_of 66 (Value.int IntKind.i64 2); refine (fits2_walk _ _).mono ?_; rintro e w' ⟨rfl, rfl⟩) | (go_at_call 67; refine (isPlace_walk _ _).mono ?_; rintro e w' ⟨rfl, rfl⟩) | (go_at_call 26; refine (isAddr_walk _ _).mono ?_; rintro e w' ⟨rfl, rfl⟩) | (go_at_call 68; refine (validOptions_walk _ _ _ _ m0).mono ?_; rintro e w' ⟨rfl, rfl⟩))
      go_ret
      exact ⟨ret_bool E.out.symm, HB.out.1⟩
    | true =>
      cases h2 : inB x6 0 255 with
      | false =>
        have E : Hid (pkOK x0 x1 x4 x5 x6 x7 x8 n0 = false) := hide (by rw [pkOK_eight, h2]; simp)
        go_enter Tryz.func32, Tryz.ntmps32
        go_wp2_with (first | (go_at_call_of 66 (Value.int IntKind.i64 1); refine (fits1_walk _ _).mono ?_; rintro e w' ⟨rfl, rfl⟩) | (go_at_call_of 66 (Value.int IntKind.i64 2); refine (fits2_walk _ _).mono ?_; rintro e w' ⟨rfl, rfl⟩) | (go_at_call 67; refine (isPlace_walk _ _).mono ?_; rintro e w' ⟨rfl, rfl⟩) | (go_at_call 26; refine (isAddr_walk _ _).mono ?_; rintro e w' ⟨rfl, rfl⟩) | (go_at_call 68; refine (validOptions_walk _ _ _ _ m0).mono ?_; rintro e w' ⟨rfl, rfl⟩))
        go_ret
        exact ⟨ret_bool E.out.symm, HB.out.1⟩
      | true =>
        cases h3 : inB x1 0 65535 with
        | false =>
          have E : Hid (pkOK x0 x1 x4 x5 x6 x7 x8 n0 = false) := hide (by rw [pkOK_eight, h3]; simp)
          go_enter Tryz.func32, Tryz.ntmps32
          go_wp2_with (first | (go_at_call_of 66 (Value.int IntKind.i64 1); refine (fits1_walk _ _).mono ?_; rintro e w' ⟨rfl, rfl⟩) | (go_at_call_of 66 (Value.int IntKind.i64 2); refine (fits2_walk _ _).mono ?_; rintro e w' ⟨rfl, rfl⟩) | (go_at_call 67; refine (isPlace_walk _ _).mono ?_; rintro e w' ⟨rfl, rfl⟩) | (go_at_call 26; refine (isAddr_walk _ _).mono ?_; rintro e w' ⟨rfl, rfl⟩) | (go_at_call 68; refine (validOptions_walk _ _ _ _ m0).mono ?_; rintro e w' ⟨rfl, rfl⟩))
          go_ret
          exact ⟨ret_bool E.out.symm, HB.out.1⟩
        | true =>
          cases h4 : plB x4 with
          | false =>
            have E : Hid (pkOK x0 x1 x4 x5 x6 x7 x8 n0 = false) := hide (by rw [pkOK_eight, h4]; simp)
            go_enter Tryz.func32, Tryz.ntmps32
            go_wp2_with (first | (go_at_call_of 66 (Value.int IntKind.i64 1); refine (fits1_walk _ _).mono ?_; rintro e w' ⟨rfl, rfl⟩) | (go_at_call_of 66 (Value.int IntKind.i64 2); refine (fits2_walk _ _).mono ?_; rintro e w' ⟨rfl, rfl⟩) | (go_at_call 67; refine (isPlace_walk _ _).mono ?_; rintro e w' ⟨rfl, rfl⟩) | (go_at_call 26; refine (isAddr_walk _ _).mono ?_; rintro e w' ⟨rfl, rfl⟩) | (go_at_call 68; refine (validOptions_walk _ _ _ _ m0).mono ?_; rintro e w' ⟨rfl, rfl⟩))
            go_ret
            exact ⟨ret_bool E.out.symm, HB.out.1⟩
          | true =>
            cases h5 : adrB x7 with
            | false =>
              have E : Hid (pkOK x0 x1 x4 x5 x6 x7 x8 n0 = false) := hide (by rw [pkOK_eight, h5]; simp)
              go_enter Tryz.func32, Tryz.ntmps32
              go_wp2_with (first | (go_at_call_of 66 (Value.int IntKind.i64 1); refine (fits1_walk _ _).mono ?_; rintro e w' ⟨rfl, rfl⟩) | (go_at_call_of 66 (Value.int IntKind.i64 2); refine (fits2_walk _ _).mono ?_; rintro e w' ⟨rfl, rfl⟩) | (go_at_call 67; refine (isPlace_walk _ _).mono ?_; rintro e w' ⟨rfl, rfl⟩) | (go_at_call 26; refine (isAddr_walk _ _).mono ?_; rintro e w' ⟨rfl, rfl⟩) | (go_at_call 68; refine (validOptions_walk _ _ _ _ m0).mono ?_; rintro e w' ⟨rfl, rfl⟩))
              go_ret
              exact ⟨ret_bool E.out.symm, HB.out.1⟩
            | true =>
              cases h6 : adrB x8 with
              | false =>
                have E : Hid (pkOK x0 x1 x4 x5 x6 x7 x8 n0 = false) := hide (by rw [pkOK_eight, h6]; simp)
                go_enter Tryz.func32, Tryz.ntmps32
                go_wp2_with (first | (go_at_call_of 66 (Value.int IntKind.i64 1); refine (fits1_walk _ _).mono ?_; rintro e w' ⟨rfl, rfl⟩) | (go_at_call_of 66 (Value.int IntKind.i64 2); refine (fits2_walk _ _).mono ?_; rintro e w' ⟨rfl, rfl⟩) | (go_at_call 67; refine (isPlace_walk _ _).mono ?_; rintro e w' ⟨rfl, rfl⟩) | (go_at_call 26; refine (isAddr_walk _ _).mono ?_; rintro e w' ⟨rfl, rfl⟩) | (go_at_call 68; refine (validOptions_walk _ _ _ _ m0).mono ?_; rintro e w' ⟨rfl, rfl⟩))
                go_ret
                exact ⟨ret_bool E.out.symm, HB.out.1⟩
              | true =>
                cases h7 : ooB n0 with
                | false =>
                  have E : Hid (pkOK x0 x1 x4 x5 x6 x7 x8 n0 = false) := hide (by rw [pkOK_eight, h7]; simp)
                  go_enter Tryz.func32, Tryz.ntmps32
                  go_wp2_with (first | (go_at_call_of 66 (Value.int IntKind.i64 1); refine (fits1_walk _ _).mono ?_; rintro e w' ⟨rfl, rfl⟩) | (go_at_call_of 66 (Value.int IntKind.i64 2); refine (fits2_walk _ _).mono ?_; rintro e w' ⟨rfl, rfl⟩) | (go_at_call 67; refine (isPlace_walk _ _).mono ?_; rintro e w' ⟨rfl, rfl⟩) | (go_at_call 26; refine (isAddr_walk _ _).mono ?_; rintro e w' ⟨rfl, rfl⟩) | (go_at_call 68; refine (validOptions_walk _ _ _ _ m0).mono ?_; rintro e w' ⟨rfl, rfl⟩))
                  go_ret
                  exact ⟨ret_bool E.out.symm, HB.out.1⟩
                | true =>
                  have E : Hid (pkOK x0 x1 x4 x5 x6 x7 x8 n0 = true) := hide (by rw [pkOK_eight, h0, h1, h2, h3, h4, h5, h6, h7]; rfl)
                  go_enter Tryz.func32, Tryz.ntmps32
                  go_wp2_with (first | (go_at_call_of 66 (Value.int IntKind.i64 1); refine (fits1_walk _ _).mono ?_; rintro e w' ⟨rfl, rfl⟩) | (go_at_call_of 66 (Value.int IntKind.i64 2); refine (fits2_walk _ _).mono ?_; rintro e w' ⟨rfl, rfl⟩) | (go_at_call 67; refine (isPlace_walk _ _).mono ?_; rintro e w' ⟨rfl, rfl⟩) | (go_at_call 26; refine (isAddr_walk _ _).mono ?_; rintro e w' ⟨rfl, rfl⟩) | (go_at_call 68; refine (validOptions_walk _ _ _ _ m0).mono ?_; rintro e w' ⟨rfl, rfl⟩))
                  go_ret
                  exact ⟨ret_bool E.out.symm, HB.out.1⟩
set_option maxRecDepth 100000
/-- A Icmp's box is as it was laid. -/
abbrev BoxIcmp (w0 w : World) (x0 : Int) (x1 : Int) (x2 : Int) (v0 : Value) : Prop := Below w0.heap.size w0 w ∧ w0.heap.size < w.heap.size ∧ w.cell? ⟨w0.heap.size, 0, none⟩ = some (.int .i64 x0) ∧ w.cell? ⟨w0.heap.size, 1, none⟩ = some (.int .i64 x1) ∧ w.cell? ⟨w0.heap.size, 2, none⟩ = some (.int .i64 x2) ∧ w.cell? ⟨w0.heap.size, 3, none⟩ = some (v0)
theorem BoxIcmp.start (w0 : World) (x0 : Int) (x1 : Int) (x2 : Int) (v0 : Value) (ty : Nat) : BoxIcmp w0 (w0.alloc (.cells #[.int .i64 x0, .int .i64 x1, .int .i64 x2, v0] ty)) x0 x1 x2 v0 := by
  have hh := heap_alloc_new w0 (.cells #[.int .i64 x0, .int .i64 x1, .int .i64 x2, v0] ty)
  exact ⟨(Below.refl _ _).alloc (Nat.le_refl _) _, by rw [World.size_alloc]; omega, cell_of_row _ _ 0 _ _ _ hh, cell_of_row _ _ 1 _ _ _ hh, cell_of_row _ _ 2 _ _ _ hh, cell_of_row _ _ 3 _ _ _ hh⟩
theorem BoxIcmp.keep {w0 w w' : World} {C : Nat} {x0 : Int} {x1 : Int} {x2 : Int} {v0 : Value} (h : BoxIcmp w0 w x0 x1 x2 v0) (hb : Below C w w') (hC : w0.heap.size < C) : BoxIcmp w0 w' x0 x1 x2 v0 := by
  obtain ⟨h1, h2, k0, k1, k2, k3⟩ := h
  exact ⟨h1.trans (hb.mono (by omega)), Nat.lt_of_lt_of_le h2 hb.size, by rw [hb.cell (p := ⟨w0.heap.size, 0, none⟩) hC]; exact k0, by rw [hb.cell (p := ⟨w0.heap.size, 1, none⟩) hC]; exact k1, by rw [hb.cell (p := ⟨w0.heap.size, 2, none⟩) hC]; exact k2, by rw [hb.cell (p := ⟨w0.heap.size, 3, none⟩) hC]; exact k3⟩
theorem BoxIcmp.next {w0 w w' : World} {x0 : Int} {x1 : Int} {x2 : Int} {v0 : Value} (h : BoxIcmp w0 w x0 x1 x2 v0) (hb : Below w.heap.size w w') : BoxIcmp w0 w' x0 x1 x2 v0 := h.keep hb h.2.1
theorem BoxIcmp.drew {w0 w : World} {x0 : Int} {x1 : Int} {x2 : Int} {v0 : Value} (h : BoxIcmp w0 w x0 x1 x2 v0) : BoxIcmp w0 w.drew x0 x1 x2 v0 := h.next ((Below.refl _ _).drew)
/-- What is wanted of a function of a Icmp that answers bytes and a code. -/
def EncIcmpP (f : Nat) (Pre : World → Prop) (x0 : Int) (x1 : Int) (x2 : Int) (z0 : List Int) (L : List Int) (C : Int) : Prop :=
  ∀ (a0 : Option Addr) (n0 c0 : Nat) (W : World), z0.length = n0 → Arr W a0 z0 → n0 ≤ c0 → n0 ≤ 1048576 → Pre W → Calls Tryz.prog f #[.agg #[.int .i64 x0, .int .i64 x1, .int .i64 x2, .slice a0 n0 c0]] W fun e w' => ∃ v : Value, e = .returned (.tuple #[v, .int .i64 C]) ∧ OwnB w' W.heap.size v L ∧ Below W.heap.size W w'
/-- What is wanted of a function of bytes that answers a Icmp and a code. -/
def DecIcmpP (f : Nat) (Pre : World → Prop) (zs : List Int) (x0 : Int) (x1 : Int) (x2 : Int) (L0 : List Int) (C : Int) : Prop :=
  ∀ (a : Option Addr) (n cap : Nat) (W : World), zs.length = n → Arr W a zs → n ≤ cap → n ≤ 1048576 → Pre W → Calls Tryz.prog f #[.slice a n cap] W fun e w' => ∃ v0 : Value, e = .returned (.tuple #[.agg #[.int .i64 x0, .int .i64 x1, .int .i64 x2, v0], .int .i64 C]) ∧ OwnB w' W.heap.size v0 L0 ∧ Below W.heap.size W w'
end Go.Proofs.YthbkhfiadkookaaGreatDoor
