/-
Contracts of functions of this seat.
-/
import Derived.Test.YtgegnkboibgbgaaRows
import Derived.WalkKit
import Derived.ProofKit
import Derived.OpenShut
import Derived.Deep.QuietTactic
import Derived.Below
import Derived.OwnWalk
import Derived.BigQuiet
import Derived.Laws.CopyOwn
import Derived.Deep.RegionHeld3
import Derived.ArgAppend
import Derived.Laws.OwnMore
import Derived.Lib.QuietBelow
namespace Go.Proofs.Ytgegnkboibgbgaa
open Go.ChangeShapes Go.WideShapes Go.ChangeAt Go.RowKit
set_option linter.unusedVariables false
set_option maxRecDepth 100000
theorem i64_bd {a : Int} (h : (Lit.int .i64 a).wf = true) : -9223372036854775808 ≤ a ∧ a ≤ 9223372036854775807 := by
  simpa [Lit.wf, IntKind.min, IntKind.max, IntKind.signed, IntKind.bits] using h
theorem ret_int {k : IntKind} {a b : Int} (h : a = b) : Ending.returned (.int k a) = .returned (.int k b) := by rw [h]
theorem ret_bool {a b : Bool} (h : a = b) : Ending.returned (.bool a) = .returned (.bool b) := by rw [h]
theorem hide {P : Prop} (h : P) : Hid P := h
theorem below_drewN {B : Nat} {a w : World} (h : Below B a w) (n : Nat) : Below B a (w.drewN n) := ⟨h.os, h.tape, h.output, h.size, h.block⟩
theorem below_undrew {B : Nat} {w w' : World} (h : Below B w.drew w') : Below B w w' := ⟨h.os, h.tape, h.output, h.size, h.block⟩

/-- 'x & (2^i - 1)' is x modulo 2^i, also of a number below 0. -/
theorem and_mask (k : IntKind) (i : Nat) (hi : i ≤ k.bits) (hk : ∀ n : Int, 0 ≤ n → n < 2 ^ i → k.wrap n = n) (x : Int) :
    bits .and k x ((2 ^ i - 1 : Nat) : Int) = x % 2 ^ i := by
  have hpos : 0 < 2 ^ i := Nat.two_pow_pos i
  have hle : 2 ^ i ≤ 2 ^ k.bits := Nat.pow_le_pow_right (by decide) hi
  have hm : (2 ^ i - 1) % 2 ^ k.bits = 2 ^ i - 1 := Nat.mod_eq_of_lt (by omega)
  have hd : (2 ^ i : Int) ∣ 2 ^ k.bits := by
    obtain ⟨c, hc⟩ := Nat.pow_dvd_pow 2 hi
    exact ⟨(c : Int), by exact_mod_cast hc⟩
  have hx : (((x % (2 ^ k.bits : Nat)).toNat % 2 ^ i : Nat) : Int) = x % 2 ^ i := by
    have h0 : 0 ≤ x % ((2 ^ k.bits : Nat) : Int) := Int.emod_nonneg _ (by have := Nat.two_pow_pos k.bits; omega)
    rw [Int.natCast_emod, Int.toNat_of_nonneg h0]
    push_cast
    exact Int.emod_emod_of_dvd x hd
  have hn : (x % (2 ^ k.bits : Nat)).toNat &&& (2 ^ i - 1) = (x % (2 ^ k.bits : Nat)).toNat % 2 ^ i := Nat.and_two_pow_sub_one_eq_mod _ _
  simp only [bits, BitVec.ofInt_natCast, BitVec.toNat_and, BitVec.toNat_ofNat, BitVec.toNat_ofInt, hm, hn, hx]
  exact hk _ (Int.emod_nonneg _ (by have : (0 : Int) < 2 ^ i := by exact_mod_cast hpos
                                    omega)) (Int.emod_lt_of_pos _ (by exact_mod_cast hpos))
theorem wrap_i64' (n : Int) (h0 : 0 ≤ n) (h1 : n ≤ 9223372036854775807) : IntKind.i64.wrap n = n := by rw [IntKind.wrap_i64]; omega
theorem wrap_u64 (n : Int) : IntKind.u64.wrap n = n % 18446744073709551616 := by simp [IntKind.wrap, IntKind.bits, IntKind.signed]
theorem wrap_u16 (n : Int) : IntKind.u16.wrap n = n % 65536 := by simp [IntKind.wrap, IntKind.bits, IntKind.signed]
theorem and_65535_i64 (x : Int) : bits .and .i64 x 65535 = x % 65536 :=
  and_mask .i64 16 (by decide) (fun n h0 h1 => wrap_i64' n h0 (by omega)) x
theorem and_255_i64 (x : Int) : bits .and .i64 x 255 = x % 256 :=
  and_mask .i64 8 (by decide) (fun n h0 h1 => wrap_i64' n h0 (by omega)) x
theorem and_1_i64 (x : Int) : bits .and .i64 x 1 = x % 2 :=
  and_mask .i64 1 (by decide) (fun n h0 h1 => wrap_i64' n h0 (by omega)) x
theorem and_65535_u64 (x : Int) : bits .and .u64 x 65535 = x % 65536 :=
  and_mask .u64 16 (by decide) (fun n h0 h1 => by rw [wrap_u64]; omega) x
theorem and_1_u32 (x : Int) : bits .and .u32 x 1 = x % 2 :=
  and_mask .u32 1 (by decide) (fun n h0 h1 => by rw [IntKind.wrap_u32]; omega) x
theorem and_15_u8 (x : Int) : bits .and .u8 x 15 = x % 16 :=
  and_mask .u8 4 (by decide) (fun n h0 h1 => by rw [IntKind.wrap_u8]; omega) x
/-- '^x' of an unsigned number: what is lacking to the greatest. -/
theorem not_of (k : IntKind) (hu : k.signed = false) (x : Int) (h0 : 0 ≤ x) (h1 : x < 2 ^ k.bits) : bits .xor k k.max x = k.max - x := by
  obtain ⟨a, rfl⟩ := Int.eq_ofNat_of_zero_le h0
  have ha : a < 2 ^ k.bits := by exact_mod_cast h1
  have hpos : 0 < 2 ^ k.bits := Nat.two_pow_pos _
  have hmax : k.max = ((2 ^ k.bits - 1 : Nat) : Int) := by
    unfold IntKind.max
    rw [if_neg (by simp [hu]), Int.natCast_sub hpos]; simp
  have hall : BitVec.ofInt k.bits k.max = BitVec.allOnes k.bits := by
    rw [hmax, BitVec.ofInt_natCast]; apply BitVec.eq_of_toNat_eq; simp
  have hw : ∀ n : Nat, n < 2 ^ k.bits → k.wrap n = n := by
    intro n hn
    unfold IntKind.wrap
    simp only [hu, Bool.false_and]
    rw [if_neg (by simp)]
    exact_mod_cast Nat.mod_eq_of_lt hn
  unfold bits
  simp only [hall, BitVec.allOnes_xor, BitVec.toNat_not, BitVec.ofInt_natCast, BitVec.toNat_ofNat, Nat.mod_eq_of_lt ha]
  rw [hw _ (by omega), hmax]
  omega
theorem not_u16 (n : Int) : bits .xor .u16 IntKind.u16.max (n % 65536) = 65535 - n % 65536 :=
  not_of .u16 rfl (n % 65536) (by omega) (by show _ < (65536 : Int); omega)
theorem not_u32 (n : Int) (h0 : 0 ≤ n) (h1 : n < 4294967296) : bits .xor .u32 IntKind.u32.max n = 4294967295 - n :=
  not_of .u32 rfl n h0 (by show _ < (4294967296 : Int); omega)
theorem signed_u16 : IntKind.u16.signed = false := rfl
theorem signed_u32 : IntKind.u32.signed = false := rfl

/-- The bytes of a slice whose array begins at a: zs, from the first on. -/
def Arr (w : World) (a : Option Addr) (zs : List Int) : Prop :=
  (∀ z ∈ zs, 0 ≤ z ∧ z ≤ 255) ∧ ∀ j, j < zs.length → ∃ b off, a = some ⟨b, off, none⟩ ∧ b < w.heap.size ∧ w.cell? ⟨b, off + j, none⟩ = some (.int .u8 (zs.getD j 0))
theorem Arr.below {B : Nat} {w w' : World} {a : Option Addr} {zs : List Int} (h : Arr w a zs) (hb : Below B w w') (hB : w.heap.size ≤ B) : Arr w' a zs := by
  refine ⟨h.1, fun j hj => ?_⟩
  obtain ⟨b, off, ha, hlt, hc⟩ := h.2 j hj
  exact ⟨b, off, ha, by have := hb.size; omega, by rw [hb.cell (p := ⟨b, off + j, none⟩) (by show b < B; omega)]; exact hc⟩
theorem getD_bd {zs : List Int} (h : ∀ z ∈ zs, 0 ≤ z ∧ z ≤ 255) (j : Nat) : 0 ≤ zs.getD j 0 ∧ zs.getD j 0 ≤ 255 := by
  by_cases hj : j < zs.length
  · rw [List.getD_eq_getElem?_getD, List.getElem?_eq_getElem hj]; exact h _ (List.getElem_mem hj)
  · rw [List.getD_eq_getElem?_getD, List.getElem?_eq_none (by omega)]; simp
theorem grown_trans {a b c : World} {row : Option Nat} (h : a.grownBy b row) (k : b.grownBy c row) : a.grownBy c row :=
  ⟨k.os.trans h.os, k.tape.trans h.tape, k.output.trans h.output, Nat.le_trans h.size k.size, fun i hi hr => (k.block i (Nat.lt_of_lt_of_le hi h.size) hr).trans (h.block i hi hr)⟩

theorem three_cells {w : World} {g t : Nat} {x y z : Value} (h : w.heap[g]? = some (.cells #[x, y, z] t)) : w.cell? ⟨g, 0, none⟩ = some x ∧ w.cell? ⟨g, 1, none⟩ = some y ∧ w.cell? ⟨g, 2, none⟩ = some z ∧ ∀ o, w.frozen? ⟨g, o, none⟩ = false :=
  ⟨cell_of_row w g 0 _ _ _ h, cell_of_row w g 1 _ _ _ h, cell_of_row w g 2 _ _ _ h, fun o => frozen_of_row w g o _ _ h⟩
theorem grown_cell (w : World) (g i : Nat) (u : Value) : w.grownBy (w.setCell ⟨g, i, none⟩ u) (some g) :=
  ⟨rfl, rfl, rfl, by simp, fun k _ hk => heap_setCell_other w ⟨g, i, none⟩ k u (fun e => hk (by rw [e]))⟩
theorem grown_under {w w' : World} {g B : Nat} (h : w.grownBy w' (some g)) (hB : B ≤ g) (hs : B ≤ w.heap.size) : Below B w w' :=
  ⟨h.os, h.tape, h.output, h.size, fun k hk => h.block k (by omega) (fun e => by cases e; omega)⟩
/-- A part of a slice, its end a sum. -/
theorem sl_part' (b off n cap p k : Nat) (hk : p + k ≤ cap) (hc : p < cap) (w : World) : (Instr.slice 51 (.slice (some ⟨b, off, none⟩) n cap) (some (.int .i64 (p : Int))) (some (.int .i64 ((p : Int) + (k : Int)))) none).run Try.prog w = .ok (.slice (some ⟨b, off + p, none⟩) k (cap - p)) w := by
  have hs : (sizeOf (Try.prog.elem 51)).run Try.prog w = .ok 1 w := Try.sizeOf5 w
  have he := run_slice_lh (P := Try.prog) (w := w) 51 (some ⟨b, off, none⟩) n cap Try.underlying51 .i64 .i64 (p : Int) ((p : Int) + (k : Int)) (by omega) (by omega) (by omega)
  rw [he, hs]
  simp [sliced, Result.andThen, Addr.add_lit]
  omega
/-- Cells of numbers. -/
def ival (zs : List Int) : List Value := zs.map (Value.int .i64)
theorem ival_len (zs : List Int) : (ival zs).length = zs.length := by unfold ival; rw [List.length_map]
theorem ival_get (zs : List Int) (j : Nat) (h : j < zs.length) : (ival zs)[j]? = some (.int .i64 (zs.getD j 0)) := by
  unfold ival; rw [List.getElem?_map, List.getElem?_eq_getElem h, List.getD_eq_getElem?_getD, List.getElem?_eq_getElem h]; rfl
theorem ival_set (zs : List Int) (i : Nat) (z : Int) : ival (zs.set i z) = (ival zs).set i (.int .i64 z) := by unfold ival; rw [List.map_set]
theorem ival_app (xs ys : List Int) : ival (xs ++ ys) = ival xs ++ ival ys := by unfold ival; rw [List.map_append]
theorem ival_one (zs : List Int) : ∀ u ∈ ival zs, u.oneCell' = true := by
  intro u hu
  obtain ⟨z, _, rfl⟩ := List.mem_map.1 hu
  rfl
/-- The numbers that lie from a on. -/
def ArrI (w : World) (a : Option Addr) (zs : List Int) : Prop :=
  ∀ j, j < zs.length → ∃ b off, a = some ⟨b, off, none⟩ ∧ b < w.heap.size ∧ w.cell? ⟨b, off + j, none⟩ = some (.int .i64 (zs.getD j 0))
theorem ArrI.below {B : Nat} {w w' : World} {a : Option Addr} {zs : List Int} (h : ArrI w a zs) (hb : Below B w w') (hB : w.heap.size ≤ B) : ArrI w' a zs := by
  intro j hj
  obtain ⟨b, off, ha, hlt, hc⟩ := h j hj
  exact ⟨b, off, ha, by have := hb.size; omega, by rw [hb.cell (p := ⟨b, off + j, none⟩) (by show b < B; omega)]; exact hc⟩
/-- A slice of n elements of K cells each in a block of this call's own (from block B on), from some cell of it on. -/
def ownsAt (w : World) (B e K : Nat) (v : Value) (n : Nat) (xs : List Value) : Prop :=
  xs.length = n * K ∧ ((v = .slice none 0 0 ∧ n = 0) ∨ ∃ g off cap cur, v = .slice (some ⟨g, off, none⟩) n cap ∧ B ≤ g ∧ w.heap[g]? = some (.cells cur e (0, 0)) ∧ n ≤ cap ∧ cap ≤ maxLen ∧ off + cap * K ≤ cur.size ∧ (cur.toList.drop off).take (n * K) = xs)
theorem ownsAt.of_row {w : World} {B e K n : Nat} {v : Value} {xs : List Value} (h : w.ownsRow B e K v n xs) : ownsAt w B e K v n xs := by
  refine ⟨h.1, ?_⟩
  rcases h.2 with h0 | ⟨g, cap, cur, hv, hB, hg, hc, hm, hs, ht⟩
  · exact .inl h0
  · exact .inr ⟨g, 0, cap, cur, hv, hB, hg, hc, hm, by omega, by rw [List.drop_zero]; exact ht⟩
theorem ownsAt.lt {w : World} {B e K n : Nat} {v : Value} {xs : List Value} (h : ownsAt w B e K v n xs) : ∀ k, v.ownBlock = some k → B ≤ k ∧ k < w.heap.size := by
  intro k hk
  rcases h.2 with ⟨rfl, _⟩ | ⟨g, off, cap, cur, rfl, hB, hg, _⟩
  · simp [Value.ownBlock] at hk
  · simp [Value.ownBlock] at hk
    subst hk
    exact ⟨hB, (Array.getElem?_eq_some_iff.1 hg).1⟩
theorem ownsAt.frame {w w' : World} {B e K n : Nat} {v : Value} {xs : List Value} (h : ownsAt w B e K v n xs) (hk : ∀ b, v.ownBlock = some b → w'.heap[b]? = w.heap[b]?) : ownsAt w' B e K v n xs := by
  refine ⟨h.1, ?_⟩
  rcases h.2 with h0 | ⟨g, off, cap, cur, hv, hB, hg, hrest⟩
  · exact .inl h0
  · exact .inr ⟨g, off, cap, cur, hv, hB, by rw [hk g (by rw [hv]; rfl)]; exact hg, hrest⟩
theorem ownsAt.mono {w : World} {B C e K n : Nat} {v : Value} {xs : List Value} (h : ownsAt w B e K v n xs) (hC : C ≤ B) : ownsAt w C e K v n xs := by
  refine ⟨h.1, ?_⟩
  rcases h.2 with h0 | ⟨g, off, cap, cur, hv, hB, hrest⟩
  · exact .inl h0
  · exact .inr ⟨g, off, cap, cur, hv, by omega, hrest⟩
theorem ownsAt.cellAt {w : World} {B e K n g off cap : Nat} {xs : List Value} (h : ownsAt w B e K (.slice (some ⟨g, off, none⟩) n cap) n xs) (j : Nat) (hj : j < n * K) : w.cell? ⟨g, off + j, none⟩ = xs[j]? := by
  rcases h.2 with ⟨h0, _⟩ | ⟨g', off', cap', cur, hv, _, hg, _, _, _, ht⟩
  · cases h0
  · cases hv
    rw [cell_of_row w g (off + j) cur e (0, 0) hg, ← ht, List.getElem?_take, if_pos hj, List.getElem?_drop]
    simp
theorem ownsAt.frozenAt {w : World} {B e K n g off cap : Nat} {xs : List Value} (h : ownsAt w B e K (.slice (some ⟨g, off, none⟩) n cap) n xs) (j : Nat) : w.frozen? ⟨g, j, none⟩ = false := by
  rcases h.2 with ⟨h0, _⟩ | ⟨g', off', cap', cur, hv, _, hg, _⟩
  · cases h0
  · cases hv
    exact frozen_of_row w g j _ _ hg
theorem ownsAt.stored {w : World} {B e K n g off cap : Nat} {xs : List Value} (h : ownsAt w B e K (.slice (some ⟨g, off, none⟩) n cap) n xs) (j : Nat) (u : Value) : ownsAt (w.setCell ⟨g, off + j, none⟩ u) B e K (.slice (some ⟨g, off, none⟩) n cap) n (xs.set j u) ∧ w.grownBy (w.setCell ⟨g, off + j, none⟩ u) (some g) := by
  refine ⟨⟨by rw [List.length_set]; exact h.1, ?_⟩, ⟨rfl, rfl, rfl, by simp, fun k _ hk => heap_setCell_other w ⟨g, off + j, none⟩ k u (fun e => hk (by rw [e]))⟩⟩
  rcases h.2 with ⟨h0, _⟩ | ⟨g', off', cap', cur, hv, hB, hg, hc, hm, hs, ht⟩
  · cases h0
  · cases hv
    refine .inr ⟨g, off, cap, _, rfl, hB, heap_setCell_same w g (off + j) _ _ u hg, hc, hm, by simpa using hs, ?_⟩
    rw [Array.toList_setIfInBounds, ← List.set_drop, List.take_set, ht]
/-- A slice of n elements of k numbers each, in memory of this call's own, from block B on. -/
def OwnI (w : World) (B e k : Nat) (v : Value) (n : Nat) (zs : List Int) : Prop := ownsAt w B e k v n (ival zs)
theorem OwnI.len {w : World} {B e k n : Nat} {v : Value} {zs : List Int} (h : OwnI w B e k v n zs) : zs.length = n * k := by
  have := h.1
  rw [ival_len] at this
  exact this
theorem OwnI.form {w : World} {B e k n : Nat} {v : Value} {zs : List Int} (h : OwnI w B e k v n zs) : (v = .slice none 0 0 ∧ n = 0) ∨ ∃ g off cap, v = .slice (some ⟨g, off, none⟩) n cap ∧ B ≤ g ∧ g < w.heap.size ∧ n ≤ cap := by
  rcases h.2 with ⟨hv, hn⟩ | ⟨g, off, cap, cur, hv, hB, hg, hc, _⟩
  · exact .inl ⟨hv, hn⟩
  · exact .inr ⟨g, off, cap, hv, hB, (Array.getElem?_eq_some_iff.1 hg).1, hc⟩
theorem OwnI.arr {w : World} {B e k n : Nat} {v : Value} {zs : List Int} (h : OwnI w B e k v n zs) : ∃ a cap, v = .slice a n cap ∧ ArrI w a zs ∧ n ≤ cap := by
  rcases h.form with ⟨rfl, rfl⟩ | ⟨g, off, cap, rfl, hB, hlt, hc⟩
  · have hz : zs = [] := List.length_eq_zero_iff.1 (by rw [h.len]; omega)
    subst hz
    exact ⟨none, 0, rfl, fun j hj => by simp at hj, Nat.le_refl _⟩
  · refine ⟨_, cap, rfl, fun j hj => ⟨g, off, rfl, hlt, ?_⟩, hc⟩
    rw [ownsAt.cellAt (show ownsAt w B e k (.slice (some ⟨g, off, none⟩) n cap) n (ival zs) from h) j (by rw [← h.len]; exact hj), ival_get zs j hj]
theorem OwnI.store {w : World} {B e k n g off cap : Nat} {zs : List Int} (h : OwnI w B e k (.slice (some ⟨g, off, none⟩) n cap) n zs) (i : Nat) (z : Int) : OwnI (w.setCell ⟨g, off + i, none⟩ (.int .i64 z)) B e k (.slice (some ⟨g, off, none⟩) n cap) n (zs.set i z) ∧ w.grownBy (w.setCell ⟨g, off + i, none⟩ (.int .i64 z)) (some g) := by
  have hs := ownsAt.stored (show ownsAt w B e k (.slice (some ⟨g, off, none⟩) n cap) n (ival zs) from h) i (.int .i64 z)
  refine ⟨?_, hs.2⟩
  unfold OwnI
  rw [ival_set]
  exact hs.1
theorem OwnI.next {w w' : World} {B e k n : Nat} {v : Value} {zs : List Int} (h : OwnI w B e k v n zs) (hb : Below w.heap.size w w') : OwnI w' B e k v n zs := ownsAt.frame h (fun b hv => hb.block b (ownsAt.lt h b hv).2)
theorem OwnI.below {w w' : World} {B C e k n : Nat} {v : Value} {zs : List Int} (h : OwnI w B e k v n zs) (hb : Below C w w') (hC : ∀ g, v.ownBlock = some g → g < C) : OwnI w' B e k v n zs := ownsAt.frame h (fun b hv => hb.block b (hC b hv))
theorem OwnI.kept {w w' : World} {B e k n : Nat} {v : Value} {zs : List Int} {row : Option Nat} (h : OwnI w B e k v n zs) (hg : w.grownBy w' row) (hne : v.ownBlock = none ∨ v.ownBlock ≠ row) : OwnI w' B e k v n zs :=
  ownsAt.frame h (fun b hv => hg.block b (ownsAt.lt h b hv).2 (by
    rcases hne with h0 | h0
    · rw [h0] at hv; cases hv
    · rw [← hv]; exact h0))
theorem OwnI.mono {w : World} {B C e k n : Nat} {v : Value} {zs : List Int} (h : OwnI w B e k v n zs) (hC : C ≤ B) : OwnI w C e k v n zs := ownsAt.mono h hC
theorem OwnI.nil (w : World) (B e k : Nat) : OwnI w B e k (.slice none 0 0) 0 [] := ownsAt.of_row (World.ownsRow_nil w B e k)
/-- The marks: k and on. -/
def mksI (k n : Nat) : List Int := (List.range n).map (fun i : Nat => (k : Int) + (i : Int))
theorem mksI_len (k n : Nat) : (mksI k n).length = n := by unfold mksI; simp
theorem mksI_succ (k n : Nat) : mksI k (n + 1) = mksI k n ++ [(k : Int) + (n : Int)] := by unfold mksI; rw [List.range_succ, List.map_append]; rfl
theorem mksI_get (k n i : Nat) (h : i < n) : (mksI k n).getD i 0 = (k : Int) + (i : Int) := by
  unfold mksI
  rw [List.getD_eq_getElem?_getD, List.getElem?_map, List.getElem?_range h]; rfl
def mkdI (k : Nat) (zs : List Int) (i : Nat) : List Int := mksI k i ++ zs.drop i
theorem mkdI_len (k : Nat) (zs : List Int) (i : Nat) (h : i ≤ zs.length) : (mkdI k zs i).length = zs.length := by unfold mkdI; rw [List.length_append, mksI_len, List.length_drop]; omega
theorem mkdI_set (k : Nat) (zs : List Int) (i : Nat) (h : i < zs.length) : (mkdI k zs i).set i ((k : Int) + (i : Int)) = mkdI k zs (i + 1) := by
  unfold mkdI
  rw [List.set_append_right _ _ (by rw [mksI_len]; exact Nat.le_refl _), mksI_len, Nat.sub_self, mksI_succ, List.append_assoc, List.drop_eq_getElem_cons h, List.set_cons_zero]
  rfl
theorem mkdI_end (k : Nat) (zs : List Int) (n : Nat) (h : zs.length = n) : mkdI k zs n = mksI k n := by subst h; unfold mkdI; rw [List.drop_length, List.append_nil]
theorem mkdI_zero (k : Nat) (zs : List Int) : mkdI k zs 0 = zs := by unfold mkdI mksI; simp
theorem OwnI.cell {w : World} {B e k n g off cap : Nat} {zs : List Int} (h : OwnI w B e k (.slice (some ⟨g, off, none⟩) n cap) n zs) (j : Nat) (hj : j < zs.length) : w.cell? ⟨g, off + j, none⟩ = some (.int .i64 (zs.getD j 0)) := by
  rw [ownsAt.cellAt (show ownsAt w B e k (.slice (some ⟨g, off, none⟩) n cap) n (ival zs) from h) j (by rw [← h.len]; exact hj), ival_get zs j hj]
theorem OwnI.frozen {w : World} {B e k n g off cap : Nat} {zs : List Int} (h : OwnI w B e k (.slice (some ⟨g, off, none⟩) n cap) n zs) (j : Nat) : w.frozen? ⟨g, j, none⟩ = false := ownsAt.frozenAt (show ownsAt w B e k (.slice (some ⟨g, off, none⟩) n cap) n (ival zs) from h) j
theorem OwnI.mark {w : World} {B e K n g off cap k j : Nat} {zs : List Int} {z : Int} (h : OwnI w B e K (.slice (some ⟨g, off, none⟩) n cap) n (mkdI k zs j)) (hj : j < zs.length) (hz : z = (k : Int) + (j : Int)) : OwnI (w.setCell ⟨g, off + j, none⟩ (.int .i64 z)) B e K (.slice (some ⟨g, off, none⟩) n cap) n (mkdI k zs (j + 1)) ∧ w.grownBy (w.setCell ⟨g, off + j, none⟩ (.int .i64 z)) (some g) := by
  have hs := h.store j z
  rw [hz] at hs ⊢
  rw [mkdI_set k zs j hj] at hs
  exact hs
/-- A row that is being filled: its first m cells are known. -/
def Filled (w : World) (B e K : Nat) (v : Value) (n : Nat) (zs : List Int) (m : Nat) : Prop := ∃ xs, w.ownsRow B e K v n xs ∧ ∀ q, q < m → xs[q]? = some (.int .i64 (zs.getD q 0))
theorem Filled.next {w w' : World} {B e K n m : Nat} {v : Value} {zs : List Int} (h : Filled w B e K v n zs m) (hb : Below w.heap.size w w') : Filled w' B e K v n zs m := by
  obtain ⟨xs, ho, hx⟩ := h
  refine ⟨xs, ⟨ho.1, ?_⟩, hx⟩
  rcases ho.2 with h0 | ⟨g, cap, cur, hv, hB, hg, hrest⟩
  · exact .inl h0
  · exact .inr ⟨g, cap, cur, hv, hB, by rw [hb.block g (Array.getElem?_eq_some_iff.1 hg).1]; exact hg, hrest⟩
theorem Filled.old {w : World} {B e K n m g cap : Nat} {zs : List Int} (h : Filled w B e K (.slice (some ⟨g, 0, none⟩) n cap) n zs m) (q : Nat) (hq : q < n * K) : ∃ o, w.cell? ⟨g, q, none⟩ = some o := by
  obtain ⟨xs, ho, hx⟩ := h
  exact ⟨_, by rw [ho.cellAt q hq]; exact List.getElem?_eq_getElem (by rw [ho.1]; exact hq)⟩
theorem Filled.frozen {w : World} {B e K n m g cap : Nat} {zs : List Int} (h : Filled w B e K (.slice (some ⟨g, 0, none⟩) n cap) n zs m) (q : Nat) : w.frozen? ⟨g, q, none⟩ = false := by
  obtain ⟨xs, ho, hx⟩ := h
  exact ho.frozenAt q
theorem Filled.step {w : World} {B e K n m g cap : Nat} {zs : List Int} {z : Int} (h : Filled w B e K (.slice (some ⟨g, 0, none⟩) n cap) n zs m) (hm : m < n * K) (hz : z = zs.getD m 0) : Filled (w.setCell ⟨g, m, none⟩ (.int .i64 z)) B e K (.slice (some ⟨g, 0, none⟩) n cap) n zs (m + 1) := by
  obtain ⟨xs, ho, hx⟩ := h
  refine ⟨xs.set m (.int .i64 z), (ho.stored m _).1, fun q hq => ?_⟩
  by_cases e : q = m
  · subst e; rw [hz]; exact List.getElem?_set_self (by rw [ho.1]; exact hm)
  · rw [List.getElem?_set_ne (fun h => e h.symm)]; exact hx q (by omega)
theorem Filled.done {w : World} {B e K n : Nat} {v : Value} {zs : List Int} (h : Filled w B e K v n zs (n * K)) (hn : zs.length = n * K) : OwnI w B e K v n zs := by
  obtain ⟨xs, ho, hx⟩ := h
  have : xs = ival zs := by
    apply List.ext_getElem?
    intro q
    by_cases hq : q < zs.length
    · rw [hx q (by omega), ival_get zs q hq]
    · rw [List.getElem?_eq_none (by rw [ho.1]; omega), List.getElem?_eq_none (by rw [ival_len]; omega)]
  unfold OwnI
  rw [← this]
  exact ownsAt.of_row ho

theorem box_facts (w : World) (x y : Value) (t : Nat) : Below w.heap.size w (w.alloc (.cells #[x, y] t)) ∧ (w.alloc (.cells #[x, y] t)).cell? ⟨w.heap.size, 0, none⟩ = some x ∧ (w.alloc (.cells #[x, y] t)).cell? ⟨w.heap.size, 1, none⟩ = some y := by
  refine ⟨(Below.refl _ _).alloc (Nat.le_refl _) _, ?_, ?_⟩
  · exact cell_of_row _ w.heap.size 0 #[x, y] t (0, 0) (heap_alloc_new w _)
  · exact cell_of_row _ w.heap.size 1 #[x, y] t (0, 0) (heap_alloc_new w _)
theorem below_then {w W : World} (h : Below w.heap.size w W) (d : Nat) (os : Array Obj) : Below w.heap.size w (Go.Sort.grow (redrawn W d) os) :=
  h.trans ((below_regrown W d os).mono h.size)
end Go.Proofs.Ytgegnkboibgbgaa
