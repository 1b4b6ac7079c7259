/-
Contracts of functions of this seat.
-/
import Derived.Test.YtlkbmdkidpfioaaRows
import Derived.WalkKit
import Derived.ProofKit
import Derived.OpenShut
import Derived.Deep.QuietTactic
import Derived.Below
import Derived.Laws.Externs
import Derived.OwnWalk
import Derived.BigQuiet
import Derived.ArgAppend
import Derived.RegionTactic
import Derived.ChangeAlike
import Derived.Lib.QuietBelow
import Derived.Laws.OwnMore
import Derived.Lib.MinMax
import Derived.Deep.RegionHeld3
import Derived.Deep.RegionWith
namespace Go.Proofs.Ytlkbmdkidpfioaa
open Go.ChangeShapes Go.WideShapes Go.ChangeAt Go.RowKit
set_option linter.unusedVariables false
set_option maxRecDepth 100000
set_option maxRecDepth 100000
theorem ret_int {k : IntKind} {a b : Int} (h : a = b) : Ending.returned (.int k a) = .returned (.int k b) := by rw [h]
theorem ret_bool {a b : Bool} (h : a = b) : Ending.returned (.bool a) = .returned (.bool b) := by rw [h]
theorem hide {P : Prop} (h : P) : Hid P := h
theorem below_drewN {B : Nat} {a w : World} (h : Below B a w) (n : Nat) : Below B a (w.drewN n) := ⟨h.os, h.tape, h.output, h.size, h.block⟩
theorem wrap_u64 (n : Int) : IntKind.u64.wrap n = n % 18446744073709551616 := by simp [IntKind.wrap, IntKind.bits, IntKind.signed]
/-- The text of a row of bytes. -/
def bs (l : List UInt8) : ByteArray := ⟨l.toArray⟩
/-- The bytes of a slice whose array begins at a: zs, from the first on. -/
def Arr (w : World) (a : Option Addr) (zs : List Int) : Prop :=
  (∀ z ∈ zs, 0 ≤ z ∧ z ≤ 255) ∧ ∀ j, j < zs.length → ∃ b off, a = some ⟨b, off, none⟩ ∧ b < w.heap.size ∧ w.cell? ⟨b, off + j, none⟩ = some (.int .u8 (zs.getD j 0))
theorem Arr.below {B : Nat} {w w' : World} {a : Option Addr} {zs : List Int} (h : Arr w a zs) (hb : Below B w w') (hB : w.heap.size ≤ B) : Arr w' a zs := by
  refine ⟨h.1, fun j hj => ?_⟩
  obtain ⟨b, off, ha, hlt, hc⟩ := h.2 j hj
  exact ⟨b, off, ha, by have := hb.size; omega, by rw [hb.cell (p := ⟨b, off + j, none⟩) (by show b < B; omega)]; exact hc⟩
theorem getD_bd {zs : List Int} (h : ∀ z ∈ zs, 0 ≤ z ∧ z ≤ 255) (j : Nat) : 0 ≤ zs.getD j 0 ∧ zs.getD j 0 ≤ 255 := by
  by_cases hj : j < zs.length
  · rw [List.getD_eq_getElem?_getD, List.getElem?_eq_getElem hj]; exact h _ (List.getElem_mem hj)
  · rw [List.getD_eq_getElem?_getD, List.getElem?_eq_none (by omega)]; simp
theorem grown_trans {a b c : World} {row : Option Nat} (h : a.grownBy b row) (k : b.grownBy c row) : a.grownBy c row :=
  ⟨k.os.trans h.os, k.tape.trans h.tape, k.output.trans h.output, Nat.le_trans h.size k.size, fun i hi hr => (k.block i (Nat.lt_of_lt_of_le hi h.size) hr).trans (h.block i hi hr)⟩


def bval (zs : List Int) : List Value := zs.map (Value.int .u8)
/-- A slice of bytes zs in memory of this call's own, from block B on. -/
def OwnB (w : World) (B : Nat) (v : Value) (zs : List Int) : Prop := w.ownsRow B 5 1 v zs.length (bval zs) ∧ ∀ z ∈ zs, 0 ≤ z ∧ z ≤ 255
theorem bval_get (zs : List Int) (j : Nat) (h : j < zs.length) : (bval zs)[j]? = some (.int .u8 (zs.getD j 0)) := by
  unfold bval; rw [List.getElem?_map, List.getElem?_eq_getElem h, List.getD_eq_getElem?_getD, List.getElem?_eq_getElem h]; rfl
theorem OwnB.arr {w : World} {B : Nat} {v : Value} {zs : List Int} (h : OwnB w B v zs) : ∃ a cap, v = .slice a zs.length cap ∧ Arr w a zs ∧ zs.length ≤ cap := by
  rcases h.1.2 with ⟨hv, hn⟩ | ⟨g, cap, cur, hv, hB, hg, hnc, hcm, hcs, htake⟩
  · have : zs = [] := List.length_eq_zero_iff.1 hn
    subst this
    exact ⟨none, 0, hv, ⟨by simp, fun j hj => by simp at hj⟩, Nat.le_refl _⟩
  · refine ⟨some ⟨g, 0, none⟩, cap, hv, ⟨h.2, fun j hj => ⟨g, 0, rfl, ?_, ?_⟩⟩, hnc⟩
    · by_cases hlt : g < w.heap.size
      · exact hlt
      · rw [Array.getElem?_eq_none (by omega)] at hg; cases hg
    · have hc := (hv ▸ h.1 : w.ownsRow B 5 1 (.slice (some ⟨g, 0, none⟩) zs.length cap) zs.length (bval zs)).cellAt j (by omega)
      rw [Nat.zero_add, hc, bval_get zs j hj]
/-- Where a source is being made: its place in the answer, and the source itself. -/
def Made (w w2 : World) (t : Nat) (a : Option Addr) (n cap : Nat) : Prop :=
  Below w.heap.size w w2 ∧ w.heap.size + 1 < w2.heap.size ∧ w2.heap[w.heap.size]? = some (.cells #[.slice none 0 0, .int .i64 0, .int .u64 0] t) ∧
    ∃ st : Int, 0 ≤ st ∧ st ≤ 18446744073709551615 ∧ w2.heap[w.heap.size + 1]? = some (.cells #[.slice a n cap, .int .i64 0, .int .u64 st] t)
theorem made_start (w : World) (t : Nat) (a : Option Addr) (n cap : Nat) (st : Int) (h0 : 0 ≤ st) (h1 : st ≤ 18446744073709551615) :
    Made w ((w.alloc (.cells #[.slice none 0 0, .int .i64 0, .int .u64 0] t)).alloc (.cells #[.slice a n cap, .int .i64 0, .int .u64 st] t)) t a n cap := by
  refine ⟨((Below.refl _ _).alloc (Nat.le_refl _) _).alloc (by rw [World.size_alloc]; omega) _, by rw [World.size_alloc, World.size_alloc]; omega, ?_, st, h0, h1, ?_⟩
  · rw [Below.heap_alloc _ _ w.heap.size (by rw [World.size_alloc]; omega)]; exact heap_alloc_new w _
  · have h := heap_alloc_new (w.alloc (.cells #[.slice none 0 0, .int .i64 0, .int .u64 0] t)) (.cells #[.slice a n cap, .int .i64 0, .int .u64 st] t)
    rw [World.size_alloc] at h; exact h
theorem made_set {w w2 : World} {t : Nat} {a : Option Addr} {n cap : Nat} (h : Made w w2 t a n cap) (s : Int) (h0 : 0 ≤ s) (h1 : s ≤ 18446744073709551615) :
    Made w (w2.setCell ⟨w.heap.size + 1, 2, none⟩ (.int .u64 s)).drew t a n cap := by
  obtain ⟨hb, hz, hr, st, _, _, hg⟩ := h
  refine ⟨(hb.setCell (p := ⟨w.heap.size + 1, 2, none⟩) (by show w.heap.size ≤ w.heap.size + 1; omega) _).drew, ?_, ?_, s, h0, h1, ?_⟩
  · show _ < (w2.setCell _ _).heap.size
    simpa using hz
  · show (w2.setCell _ _).heap[w.heap.size]? = _
    rw [heap_setCell_other w2 ⟨w.heap.size + 1, 2, none⟩ w.heap.size _ (by simp)]; exact hr
  · exact heap_setCell_same w2 (w.heap.size + 1) 2 _ t _ hg

theorem OwnB.below {w w' : World} {B C : Nat} {v : Value} {zs : List Int} (h : OwnB w B v zs) (hb : Below C w w') (hC : ∀ k, v.ownBlock = some k → k < C) : OwnB w' B v zs := by
  refine ⟨⟨h.1.1, ?_⟩, h.2⟩
  rcases h.1.2 with h0 | ⟨g, cap, cur, hv, hB, hg, hrest⟩
  · exact .inl h0
  · exact .inr ⟨g, cap, cur, hv, hB, by rw [hb.block g (hC g (by rw [hv]; rfl))]; exact hg, hrest⟩
theorem OwnB.next {w w' : World} {B : Nat} {v : Value} {zs : List Int} (h : OwnB w B v zs) (hb : Below w.heap.size w w') : OwnB w' B v zs := h.below hb (fun k hk => (h.1.lt k hk).2)
theorem OwnB.mono {w : World} {B C : Nat} {v : Value} {zs : List Int} (h : OwnB w B v zs) (hC : C ≤ B) : OwnB w C v zs := by
  refine ⟨⟨h.1.1, ?_⟩, h.2⟩
  rcases h.1.2 with h0 | ⟨g, cap, cur, hv, hB, hg, hrest⟩
  · exact .inl h0
  · exact .inr ⟨g, cap, cur, hv, by omega, hg, hrest⟩
theorem OwnB.drew {w : World} {B : Nat} {v : Value} {zs : List Int} (h : OwnB w B v zs) : OwnB w.drew B v zs := ⟨h.1.drew, h.2⟩

set_option maxRecDepth 100000
theorem three_allocs (w : World) (o1 o2 o3 : Obj) : Below w.heap.size w (((w.alloc o1).alloc o2).alloc o3) ∧ (((w.alloc o1).alloc o2).alloc o3).heap.size = w.heap.size + 3 ∧ (((w.alloc o1).alloc o2).alloc o3).heap[w.heap.size]? = some o1 ∧ (((w.alloc o1).alloc o2).alloc o3).heap[w.heap.size + 1]? = some o2 ∧ (((w.alloc o1).alloc o2).alloc o3).heap[w.heap.size + 1 + 1]? = some o3 := by
  have s1 := World.size_alloc w o1
  have s2 := World.size_alloc (w.alloc o1) o2
  have s3 := World.size_alloc ((w.alloc o1).alloc o2) o3
  refine ⟨(((Below.refl _ _).alloc (Nat.le_refl _) _).alloc (by omega) _).alloc (by omega) _, by omega, ?_, ?_, ?_⟩
  · rw [Below.heap_alloc _ o3 _ (by omega), Below.heap_alloc _ o2 _ (by omega)]; exact heap_alloc_new w o1
  · rw [Below.heap_alloc _ o3 _ (by omega), ← s1]; exact heap_alloc_new (w.alloc o1) o2
  · rw [show w.heap.size + 1 + 1 = ((w.alloc o1).alloc o2).heap.size by omega]; exact heap_alloc_new _ o3

/-- Nothing but these blocks, and new ones, has changed. -/
structure Only (S : List Nat) (w w' : World) : Prop where
  os : w'.os = w.os
  tape : w'.tape = w.tape
  output : w'.output = w.output
  size : w.heap.size ≤ w'.heap.size
  block : ∀ k, k < w.heap.size → k ∉ S → w'.heap[k]? = w.heap[k]?
theorem Only.refl (S : List Nat) (w : World) : Only S w w := ⟨rfl, rfl, rfl, Nat.le_refl _, fun _ _ _ => rfl⟩
theorem Only.trans {S : List Nat} {a b c : World} (h : Only S a b) (k : Only S b c) : Only S a c :=
  ⟨k.os.trans h.os, k.tape.trans h.tape, k.output.trans h.output, Nat.le_trans h.size k.size, fun i hi hn => (k.block i (Nat.lt_of_lt_of_le hi h.size) hn).trans (h.block i hi hn)⟩
theorem Only.mono {S T : List Nat} {a b : World} (h : Only S a b) (hS : ∀ x ∈ S, x ∈ T) : Only T a b := ⟨h.os, h.tape, h.output, h.size, fun i hi hn => h.block i hi (fun hm => hn (hS i hm))⟩
theorem Only.of_some {w w' : World} {g : Nat} (h : w.grownBy w' (some g)) : Only [g] w w' :=
  ⟨h.os, h.tape, h.output, h.size, fun k hk hn => h.block k hk (fun e => hn (by cases e; simp))⟩
theorem Only.below {S : List Nat} {w w' : World} {B : Nat} (h : Only S w w') (hS : ∀ x ∈ S, B ≤ x) (hB : B ≤ w.heap.size) : Below B w w' :=
  ⟨h.os, h.tape, h.output, h.size, fun k hk => h.block k (by omega) (fun hm => by have := hS k hm; omega)⟩
theorem Only.of_below {S : List Nat} {w w' : World} (h : Below w.heap.size w w') : Only S w w' := ⟨h.os, h.tape, h.output, h.size, fun k hk _ => h.block k hk⟩

/-- A struct's box: its cells lie in the block where this call began. -/
def BoxRow (w0 w : World) (cs : Array Value) (ty : Nat) : Prop := Below w0.heap.size w0 w ∧ w0.heap.size < w.heap.size ∧ w.heap[w0.heap.size]? = some (.cells cs ty)
theorem BoxRow.start (w0 : World) (cs : Array Value) (ty : Nat) : BoxRow w0 (w0.alloc (.cells cs ty)) cs ty := ⟨(Below.refl _ _).alloc (Nat.le_refl _) _, by rw [World.size_alloc]; omega, heap_alloc_new _ _⟩
theorem BoxRow.next {w0 w w' : World} {cs : Array Value} {ty : Nat} (h : BoxRow w0 w cs ty) (hb : Below w.heap.size w w') : BoxRow w0 w' cs ty := ⟨h.1.trans (hb.mono h.1.size), Nat.lt_of_lt_of_le h.2.1 hb.size, (hb.block _ h.2.1).trans h.2.2⟩
theorem BoxRow.cell {w0 w : World} {cs : Array Value} {ty : Nat} (h : BoxRow w0 w cs ty) (i : Nat) : w.cell? ⟨w0.heap.size, i, none⟩ = cs[i]? := cell_of_row _ _ i _ _ _ h.2.2
/-- Three boxes lie where this call began. -/
def Three (w W : World) (o0 o1 o2 : Obj) : Prop := Below w.heap.size w W ∧ w.heap.size + 2 < W.heap.size ∧ W.heap[w.heap.size]? = some o0 ∧ W.heap[w.heap.size + 1]? = some o1 ∧ W.heap[w.heap.size + 1 + 1]? = some o2
theorem Three.start (w : World) (o0 o1 o2 : Obj) : Three w (((w.alloc o0).alloc o1).alloc o2) o0 o1 o2 := by
  obtain ⟨h1, h2, h3, h4, h5⟩ := three_allocs w o0 o1 o2
  exact ⟨h1, by omega, h3, h4, h5⟩
theorem Three.next {w W W' : World} {o0 o1 o2 : Obj} (h : Three w W o0 o1 o2) (hb : Below W.heap.size W W') : Three w W' o0 o1 o2 := by
  obtain ⟨h1, h2, h3, h4, h5⟩ := h
  exact ⟨h1.trans (hb.mono h1.size), Nat.lt_of_lt_of_le h2 hb.size, (hb.block _ (by omega)).trans h3, (hb.block _ (by omega)).trans h4, (hb.block _ (by omega)).trans h5⟩
/-- Two boxes lie where this call began. -/
def TwoB (w W : World) (o1 o2 : Obj) : Prop := (Below w.heap.size w W ∧ w.heap.size + 1 < W.heap.size) ∧ W.heap[w.heap.size]? = some o1 ∧ W.heap[w.heap.size + 1]? = some o2
theorem TwoB.start (w : World) (o1 o2 : Obj) : TwoB w ((w.alloc o1).alloc o2) o1 o2 := by
  have s1 := World.size_alloc w o1
  have s2 := World.size_alloc (w.alloc o1) o2
  refine ⟨⟨((Below.refl _ _).alloc (Nat.le_refl _) _).alloc (by omega) _, by omega⟩, ?_, ?_⟩
  · rw [Below.heap_alloc _ o2 _ (by omega)]; exact heap_alloc_new w o1
  · rw [← s1]; exact heap_alloc_new (w.alloc o1) o2
theorem TwoB.next {w W W' : World} {o1 o2 : Obj} (h : TwoB w W o1 o2) (hb : Below W.heap.size W W') : TwoB w W' o1 o2 :=
  ⟨⟨h.1.1.trans (hb.mono h.1.1.size), Nat.lt_of_lt_of_le h.1.2 hb.size⟩, (hb.block _ (by have := h.1.2; omega)).trans h.2.1, (hb.block _ h.1.2).trans h.2.2⟩
/-- Cells of numbers. -/
def ival (zs : List Int) : List Value := zs.map (Value.int .i64)
theorem ival_len (zs : List Int) : (ival zs).length = zs.length := by unfold ival; rw [List.length_map]
theorem ival_get (zs : List Int) (j : Nat) (h : j < zs.length) : (ival zs)[j]? = some (.int .i64 (zs.getD j 0)) := by
  unfold ival; rw [List.getElem?_map, List.getElem?_eq_getElem h, List.getD_eq_getElem?_getD, List.getElem?_eq_getElem h]; rfl
theorem ival_app (xs ys : List Int) : ival (xs ++ ys) = ival xs ++ ival ys := by unfold ival; rw [List.map_append]
/-- The numbers that lie from a on. -/
def ArrI (w : World) (a : Option Addr) (zs : List Int) : Prop :=
  ∀ j, j < zs.length → ∃ b off, a = some ⟨b, off, none⟩ ∧ b < w.heap.size ∧ w.cell? ⟨b, off + j, none⟩ = some (.int .i64 (zs.getD j 0))
theorem ArrI.below {B : Nat} {w w' : World} {a : Option Addr} {zs : List Int} (h : ArrI w a zs) (hb : Below B w w') (hB : w.heap.size ≤ B) : ArrI w' a zs := by
  intro j hj
  obtain ⟨b, off, ha, hlt, hc⟩ := h j hj
  exact ⟨b, off, ha, by have := hb.size; omega, by rw [hb.cell (p := ⟨b, off + j, none⟩) (by show b < B; omega)]; exact hc⟩
/-- A slice of n elements of K cells each in a block of this call's own (from block B on), from some cell of it on. -/
def ownsAt (w : World) (B e K : Nat) (v : Value) (n : Nat) (xs : List Value) : Prop :=
  xs.length = n * K ∧ ((v = .slice none 0 0 ∧ n = 0) ∨ ∃ g off cap cur, v = .slice (some ⟨g, off, none⟩) n cap ∧ B ≤ g ∧ w.heap[g]? = some (.cells cur e (0, 0)) ∧ n ≤ cap ∧ cap ≤ maxLen ∧ off + cap * K ≤ cur.size ∧ (cur.toList.drop off).take (n * K) = xs)
theorem ownsAt.of_row {w : World} {B e K n : Nat} {v : Value} {xs : List Value} (h : w.ownsRow B e K v n xs) : ownsAt w B e K v n xs := by
  refine ⟨h.1, ?_⟩
  rcases h.2 with h0 | ⟨g, cap, cur, hv, hB, hg, hc, hm, hs, ht⟩
  · exact .inl h0
  · exact .inr ⟨g, 0, cap, cur, hv, hB, hg, hc, hm, by omega, by rw [List.drop_zero]; exact ht⟩
theorem ownsAt.lt {w : World} {B e K n : Nat} {v : Value} {xs : List Value} (h : ownsAt w B e K v n xs) : ∀ k, v.ownBlock = some k → B ≤ k ∧ k < w.heap.size := by
  intro k hk
  rcases h.2 with ⟨rfl, _⟩ | ⟨g, off, cap, cur, rfl, hB, hg, _⟩
  · simp [Value.ownBlock] at hk
  · simp [Value.ownBlock] at hk
    subst hk
    exact ⟨hB, (Array.getElem?_eq_some_iff.1 hg).1⟩
theorem ownsAt.frame {w w' : World} {B e K n : Nat} {v : Value} {xs : List Value} (h : ownsAt w B e K v n xs) (hk : ∀ b, v.ownBlock = some b → w'.heap[b]? = w.heap[b]?) : ownsAt w' B e K v n xs := by
  refine ⟨h.1, ?_⟩
  rcases h.2 with h0 | ⟨g, off, cap, cur, hv, hB, hg, hrest⟩
  · exact .inl h0
  · exact .inr ⟨g, off, cap, cur, hv, hB, by rw [hk g (by rw [hv]; rfl)]; exact hg, hrest⟩
theorem ownsAt.mono {w : World} {B C e K n : Nat} {v : Value} {xs : List Value} (h : ownsAt w B e K v n xs) (hC : C ≤ B) : ownsAt w C e K v n xs := by
  refine ⟨h.1, ?_⟩
  rcases h.2 with h0 | ⟨g, off, cap, cur, hv, hB, hrest⟩
  · exact .inl h0
  · exact .inr ⟨g, off, cap, cur, hv, by omega, hrest⟩
theorem ownsAt.cellAt {w : World} {B e K n g off cap : Nat} {xs : List Value} (h : ownsAt w B e K (.slice (some ⟨g, off, none⟩) n cap) n xs) (j : Nat) (hj : j < n * K) : w.cell? ⟨g, off + j, none⟩ = xs[j]? := by
  rcases h.2 with ⟨h0, _⟩ | ⟨g', off', cap', cur, hv, _, hg, _, _, _, ht⟩
  · cases h0
  · cases hv
    rw [cell_of_row w g (off + j) cur e (0, 0) hg, ← ht, List.getElem?_take, if_pos hj, List.getElem?_drop]
    simp
theorem ownsAt.frozenAt {w : World} {B e K n g off cap : Nat} {xs : List Value} (h : ownsAt w B e K (.slice (some ⟨g, off, none⟩) n cap) n xs) (j : Nat) : w.frozen? ⟨g, j, none⟩ = false := by
  rcases h.2 with ⟨h0, _⟩ | ⟨g', off', cap', cur, hv, _, hg, _⟩
  · cases h0
  · cases hv
    exact frozen_of_row w g j _ _ hg
theorem ownsAt.stored {w : World} {B e K n g off cap : Nat} {xs : List Value} (h : ownsAt w B e K (.slice (some ⟨g, off, none⟩) n cap) n xs) (j : Nat) (u : Value) : ownsAt (w.setCell ⟨g, off + j, none⟩ u) B e K (.slice (some ⟨g, off, none⟩) n cap) n (xs.set j u) ∧ w.grownBy (w.setCell ⟨g, off + j, none⟩ u) (some g) := by
  refine ⟨⟨by rw [List.length_set]; exact h.1, ?_⟩, ⟨rfl, rfl, rfl, by simp, fun k _ hk => heap_setCell_other w ⟨g, off + j, none⟩ k u (fun e => hk (by rw [e]))⟩⟩
  rcases h.2 with ⟨h0, _⟩ | ⟨g', off', cap', cur, hv, hB, hg, hc, hm, hs, ht⟩
  · cases h0
  · cases hv
    refine .inr ⟨g, off, cap, _, rfl, hB, heap_setCell_same w g (off + j) _ _ u hg, hc, hm, by simpa using hs, ?_⟩
    rw [Array.toList_setIfInBounds, ← List.set_drop, List.take_set, ht]
/-- A slice of n elements of k numbers each, in memory of this call's own, from block B on. -/
def OwnI (w : World) (B e k : Nat) (v : Value) (n : Nat) (zs : List Int) : Prop := ownsAt w B e k v n (ival zs)
theorem OwnI.len {w : World} {B e k n : Nat} {v : Value} {zs : List Int} (h : OwnI w B e k v n zs) : zs.length = n * k := by
  have := h.1
  rw [ival_len] at this
  exact this
theorem OwnI.form {w : World} {B e k n : Nat} {v : Value} {zs : List Int} (h : OwnI w B e k v n zs) : (v = .slice none 0 0 ∧ n = 0) ∨ ∃ g off cap, v = .slice (some ⟨g, off, none⟩) n cap ∧ B ≤ g ∧ g < w.heap.size ∧ n ≤ cap := by
  rcases h.2 with ⟨hv, hn⟩ | ⟨g, off, cap, cur, hv, hB, hg, hc, _⟩
  · exact .inl ⟨hv, hn⟩
  · exact .inr ⟨g, off, cap, hv, hB, (Array.getElem?_eq_some_iff.1 hg).1, hc⟩
theorem OwnI.arr {w : World} {B e k n : Nat} {v : Value} {zs : List Int} (h : OwnI w B e k v n zs) : ∃ a cap, v = .slice a n cap ∧ ArrI w a zs ∧ n ≤ cap := by
  rcases h.form with ⟨rfl, rfl⟩ | ⟨g, off, cap, rfl, hB, hlt, hc⟩
  · have hz : zs = [] := List.length_eq_zero_iff.1 (by rw [h.len]; omega)
    subst hz
    exact ⟨none, 0, rfl, fun j hj => by simp at hj, Nat.le_refl _⟩
  · refine ⟨_, cap, rfl, fun j hj => ⟨g, off, rfl, hlt, ?_⟩, hc⟩
    rw [ownsAt.cellAt (show ownsAt w B e k (.slice (some ⟨g, off, none⟩) n cap) n (ival zs) from h) j (by rw [← h.len]; exact hj), ival_get zs j hj]
theorem OwnI.next {w w' : World} {B e k n : Nat} {v : Value} {zs : List Int} (h : OwnI w B e k v n zs) (hb : Below w.heap.size w w') : OwnI w' B e k v n zs := ownsAt.frame h (fun b hv => hb.block b (ownsAt.lt h b hv).2)
theorem OwnI.below {w w' : World} {B C e k n : Nat} {v : Value} {zs : List Int} (h : OwnI w B e k v n zs) (hb : Below C w w') (hC : ∀ g, v.ownBlock = some g → g < C) : OwnI w' B e k v n zs := ownsAt.frame h (fun b hv => hb.block b (hC b hv))
theorem OwnI.mono {w : World} {B C e k n : Nat} {v : Value} {zs : List Int} (h : OwnI w B e k v n zs) (hC : C ≤ B) : OwnI w C e k v n zs := ownsAt.mono h hC
theorem OwnI.cell {w : World} {B e k n g off cap : Nat} {zs : List Int} (h : OwnI w B e k (.slice (some ⟨g, off, none⟩) n cap) n zs) (j : Nat) (hj : j < zs.length) : w.cell? ⟨g, off + j, none⟩ = some (.int .i64 (zs.getD j 0)) := by
  rw [ownsAt.cellAt (show ownsAt w B e k (.slice (some ⟨g, off, none⟩) n cap) n (ival zs) from h) j (by rw [← h.len]; exact hj), ival_get zs j hj]
theorem OwnI.frozen {w : World} {B e k n g off cap : Nat} {zs : List Int} (h : OwnI w B e k (.slice (some ⟨g, off, none⟩) n cap) n zs) (j : Nat) : w.frozen? ⟨g, j, none⟩ = false := ownsAt.frozenAt (show ownsAt w B e k (.slice (some ⟨g, off, none⟩) n cap) n (ival zs) from h) j
/-- A row that is being filled: its first m cells are known. -/
def Filled (w : World) (B e K : Nat) (v : Value) (n : Nat) (zs : List Int) (m : Nat) : Prop := ∃ xs, w.ownsRow B e K v n xs ∧ ∀ q, q < m → xs[q]? = some (.int .i64 (zs.getD q 0))
theorem Filled.next {w w' : World} {B e K n m : Nat} {v : Value} {zs : List Int} (h : Filled w B e K v n zs m) (hb : Below w.heap.size w w') : Filled w' B e K v n zs m := by
  obtain ⟨xs, ho, hx⟩ := h
  refine ⟨xs, ⟨ho.1, ?_⟩, hx⟩
  rcases ho.2 with h0 | ⟨g, cap, cur, hv, hB, hg, hrest⟩
  · exact .inl h0
  · exact .inr ⟨g, cap, cur, hv, hB, by rw [hb.block g (Array.getElem?_eq_some_iff.1 hg).1]; exact hg, hrest⟩
theorem Filled.frozen {w : World} {B e K n m g cap : Nat} {zs : List Int} (h : Filled w B e K (.slice (some ⟨g, 0, none⟩) n cap) n zs m) (q : Nat) : w.frozen? ⟨g, q, none⟩ = false := by
  obtain ⟨xs, ho, hx⟩ := h
  exact ho.frozenAt q
theorem Filled.step {w : World} {B e K n m g cap : Nat} {zs : List Int} {z : Int} (h : Filled w B e K (.slice (some ⟨g, 0, none⟩) n cap) n zs m) (hm : m < n * K) (hz : z = zs.getD m 0) : Filled (w.setCell ⟨g, m, none⟩ (.int .i64 z)) B e K (.slice (some ⟨g, 0, none⟩) n cap) n zs (m + 1) := by
  obtain ⟨xs, ho, hx⟩ := h
  refine ⟨xs.set m (.int .i64 z), (ho.stored m _).1, fun q hq => ?_⟩
  by_cases e : q = m
  · subst e; rw [hz]; exact List.getElem?_set_self (by rw [ho.1]; exact hm)
  · rw [List.getElem?_set_ne (fun h => e h.symm)]; exact hx q (by omega)
/-- What lies in a cell: a plain value, or a slice of this call's own with n elements of K cells each. -/
inductive D where
  | c (v : Value)
  | s (e K n : Nat) (ds : List D)
mutual
def Holds (w : World) (B : Nat) : D → Value → List Nat → Prop
  | .c u, v, bs => v = u ∧ bs = []
  | .s e K n ds, v, bs => ∃ xs fs, ownsAt w B e K v n xs ∧ HoldsL w B ds xs fs ∧ bs = v.ownBlock.toList ++ fs
def HoldsL (w : World) (B : Nat) : List D → List Value → List Nat → Prop
  | [], xs, bs => xs = [] ∧ bs = []
  | d :: ds, xs, bs => ∃ x xt b1 b2, xs = x :: xt ∧ bs = b1 ++ b2 ∧ Holds w B d x b1 ∧ HoldsL w B ds xt b2
 end
theorem row_frame {w w' : World} {B e K n : Nat} {v : Value} {xs : List Value} (h : ownsAt w B e K v n xs) (hk : ∀ b, v.ownBlock = some b → w'.heap[b]? = w.heap[b]?) : ownsAt w' B e K v n xs := h.frame hk
mutual
theorem Holds.frame {w w' : World} {B : Nat} : ∀ (d : D) (v : Value) (bs : List Nat), Holds w B d v bs → (∀ b ∈ bs, w'.heap[b]? = w.heap[b]?) → Holds w' B d v bs
  | .c u, v, bs, h, _ => by unfold Holds at h ⊢; exact h
  | .s e K n ds, v, bs, h, hk => by
    unfold Holds at h ⊢
    obtain ⟨xs, fs, ho, hl, hb⟩ := h
    subst hb
    exact ⟨xs, fs, row_frame ho (fun b hb => hk b (List.mem_append.2 (.inl (by rw [hb]; simp)))), HoldsL.frame ds xs fs hl (fun b hb => hk b (List.mem_append.2 (.inr hb))), rfl⟩
theorem HoldsL.frame {w w' : World} {B : Nat} : ∀ (ds : List D) (xs : List Value) (bs : List Nat), HoldsL w B ds xs bs → (∀ b ∈ bs, w'.heap[b]? = w.heap[b]?) → HoldsL w' B ds xs bs
  | [], xs, bs, h, _ => by unfold HoldsL at h ⊢; exact h
  | d :: ds, xs, bs, h, hk => by
    unfold HoldsL at h ⊢
    obtain ⟨x, xt, b1, b2, hx, hb, h1, h2⟩ := h
    subst hb
    exact ⟨x, xt, b1, b2, hx, rfl, Holds.frame d x b1 h1 (fun b hb => hk b (List.mem_append.2 (.inl hb))), HoldsL.frame ds xt b2 h2 (fun b hb => hk b (List.mem_append.2 (.inr hb)))⟩
 end
mutual
theorem Holds.lt {w : World} {B : Nat} : ∀ (d : D) (v : Value) (bs : List Nat), Holds w B d v bs → ∀ b ∈ bs, B ≤ b ∧ b < w.heap.size
  | .c u, v, bs, h => by unfold Holds at h; intro b hb; rw [h.2] at hb; cases hb
  | .s e K n ds, v, bs, h => by
    unfold Holds at h
    obtain ⟨xs, fs, ho, hl, hb⟩ := h
    subst hb
    intro b hb
    rcases List.mem_append.1 hb with hb | hb
    · exact ho.lt b (by simpa using hb)
    · exact HoldsL.lt ds xs fs hl b hb
theorem HoldsL.lt {w : World} {B : Nat} : ∀ (ds : List D) (xs : List Value) (bs : List Nat), HoldsL w B ds xs bs → ∀ b ∈ bs, B ≤ b ∧ b < w.heap.size
  | [], xs, bs, h => by unfold HoldsL at h; intro b hb; rw [h.2] at hb; cases hb
  | d :: ds, xs, bs, h => by
    unfold HoldsL at h
    obtain ⟨x, xt, b1, b2, hx, hb, h1, h2⟩ := h
    subst hb
    intro b hb
    rcases List.mem_append.1 hb with hb | hb
    · exact Holds.lt d x b1 h1 b hb
    · exact HoldsL.lt ds xt b2 h2 b hb
 end
theorem HoldsL.len {w : World} {B : Nat} : ∀ (ds : List D) (xs : List Value) (bs : List Nat), HoldsL w B ds xs bs → xs.length = ds.length
  | [], xs, bs, h => by unfold HoldsL at h; rw [h.1]; rfl
  | d :: ds, xs, bs, h => by
    unfold HoldsL at h
    obtain ⟨x, xt, b1, b2, hx, hb, h1, h2⟩ := h
    subst hx
    simp [HoldsL.len ds xt b2 h2]
theorem HoldsL.split {w : World} {B : Nat} : ∀ (d1 d2 : List D) (xs : List Value) (bs : List Nat), HoldsL w B (d1 ++ d2) xs bs → ∃ x1 x2 b1 b2, xs = x1 ++ x2 ∧ bs = b1 ++ b2 ∧ HoldsL w B d1 x1 b1 ∧ HoldsL w B d2 x2 b2
  | [], d2, xs, bs, h => ⟨[], xs, [], bs, rfl, rfl, by unfold HoldsL; exact ⟨rfl, rfl⟩, h⟩
  | d :: d1, d2, xs, bs, h => by
    have h' : HoldsL w B (d :: (d1 ++ d2)) xs bs := h
    unfold HoldsL at h'
    obtain ⟨x, xt, b1, b2, hx, hb, h1, h2⟩ := h'
    obtain ⟨y1, y2, c1, c2, e1, e2, k1, k2⟩ := HoldsL.split d1 d2 xt b2 h2
    subst hx hb e1 e2
    refine ⟨x :: y1, y2, b1 ++ c1, c2, rfl, by rw [List.append_assoc], ?_, k2⟩
    unfold HoldsL
    exact ⟨x, y1, b1, c1, rfl, rfl, h1, k1⟩
theorem HoldsL.join {w : World} {B : Nat} : ∀ (d1 d2 : List D) (x1 x2 : List Value) (b1 b2 : List Nat), HoldsL w B d1 x1 b1 → HoldsL w B d2 x2 b2 → HoldsL w B (d1 ++ d2) (x1 ++ x2) (b1 ++ b2)
  | [], d2, x1, x2, b1, b2, h, k => by unfold HoldsL at h; rw [h.1, h.2]; exact k
  | d :: d1, d2, x1, x2, b1, b2, h, k => by
    unfold HoldsL at h
    obtain ⟨x, xt, c1, c2, hx, hb, h1, h2⟩ := h
    subst hx hb
    show HoldsL w B (d :: (d1 ++ d2)) (x :: (xt ++ x2)) (c1 ++ c2 ++ b2)
    unfold HoldsL
    exact ⟨x, xt ++ x2, c1, c2 ++ b2, rfl, by rw [List.append_assoc], h1, HoldsL.join d1 d2 xt x2 c2 b2 h2 k⟩
/-- A row of numbers. -/
def nums (zs : List Int) : List D := zs.map (fun z => .c (.int .i64 z))
theorem holds_nums {w : World} {B : Nat} : ∀ (zs : List Int) (xs : List Value) (bs : List Nat), HoldsL w B (nums zs) xs bs ↔ xs = ival zs ∧ bs = []
  | [], xs, bs => by unfold nums HoldsL ival; simp
  | z :: zs, xs, bs => by
    show HoldsL w B (.c (.int .i64 z) :: nums zs) xs bs ↔ _
    unfold HoldsL
    constructor
    · rintro ⟨x, xt, b1, b2, rfl, rfl, h1, h2⟩
      unfold Holds at h1
      obtain ⟨e1, e2⟩ := (holds_nums zs xt b2).1 h2
      rw [h1.1, h1.2, e1, e2]
      exact ⟨rfl, rfl⟩
    · rintro ⟨rfl, rfl⟩
      exact ⟨_, ival zs, [], [], rfl, rfl, by unfold Holds; exact ⟨rfl, rfl⟩, (holds_nums zs _ _).2 ⟨rfl, rfl⟩⟩
theorem holds_flat {w : World} {B e K n : Nat} {zs : List Int} {v : Value} {bs : List Nat} : Holds w B (.s e K n (nums zs)) v bs ↔ OwnI w B e K v n zs ∧ bs = v.ownBlock.toList := by
  unfold Holds
  constructor
  · rintro ⟨xs, fs, ho, hl, rfl⟩
    obtain ⟨rfl, rfl⟩ := (holds_nums zs xs fs).1 hl
    exact ⟨ho, by simp⟩
  · rintro ⟨ho, rfl⟩
    exact ⟨_, [], ho, (holds_nums zs _ _).2 ⟨rfl, rfl⟩, by simp⟩
theorem holds_c {w : World} {B : Nat} {u v : Value} {bs : List Nat} : Holds w B (.c u) v bs ↔ v = u ∧ bs = [] := by unfold Holds; exact Iff.rfl
theorem holdsL_cons {w : World} {B : Nat} {d : D} {ds : List D} {xs : List Value} {bs : List Nat} : HoldsL w B (d :: ds) xs bs ↔ ∃ x xt b1 b2, xs = x :: xt ∧ bs = b1 ++ b2 ∧ Holds w B d x b1 ∧ HoldsL w B ds xt b2 := by
  constructor
  · intro h; unfold HoldsL at h; exact h
  · intro h; unfold HoldsL; exact h
theorem holds_s {w : World} {B e K n : Nat} {ds : List D} {v : Value} {bs : List Nat} : Holds w B (.s e K n ds) v bs ↔ ∃ xs fs, ownsAt w B e K v n xs ∧ HoldsL w B ds xs fs ∧ bs = v.ownBlock.toList ++ fs := by
  constructor
  · intro h; unfold Holds at h; exact h
  · intro h; unfold Holds; exact h
theorem Holds.next {w w' : World} {B : Nat} {d : D} {v : Value} {bs : List Nat} (h : Holds w B d v bs) (hb : Below w.heap.size w w') : Holds w' B d v bs := h.frame d v bs (fun b hm => hb.block b (Holds.lt d v bs h b hm).2)

theorem row_only {S : List Nat} {w w' : World} {B e K n : Nat} {v : Value} {xs : List Value} (h : ownsAt w B e K v n xs) (k : Only S w w') (hn : ∀ b, v.ownBlock = some b → b ∉ S) : ownsAt w' B e K v n xs :=
  row_frame h (fun b hb => k.block b (h.lt b hb).2 (hn b hb))
mutual
/-- How many numbers, bools and letters lie there. -/
def szD : D → Nat
  | .c _ => 1
  | .s _ _ _ ds => szL ds
def szL : List D → Nat
  | [] => 0
  | d :: ds => szD d + szL ds
end
/-- What marking makes of a plain value. -/
def mkV (k : Nat) : Value → Value
  | .int .u8 _ => .int .u8 ((k : Int) % 256)
  | .int d _ => .int d (k : Int)
  | .bool _ => .bool (k % 3 == 0)
  | v => v
mutual
/-- What marking makes of a datum. -/
def mkD (k : Nat) : D → D
  | .c v => .c (mkV k v)
  | .s e K n ds => .s e K n (mkL k ds)
def mkL (k : Nat) : List D → List D
  | [] => []
  | d :: ds => mkD k d :: mkL (k + szD d) ds
end
theorem mkL_len : ∀ (ds : List D) (k : Nat), (mkL k ds).length = ds.length
  | [], k => rfl
  | d :: ds, k => by simp only [mkL, List.length_cons, mkL_len ds]
theorem mkL_app : ∀ (d1 d2 : List D) (k : Nat), mkL k (d1 ++ d2) = mkL k d1 ++ mkL (k + szL d1) d2
  | [], d2, k => by simp [mkL, szL]
  | d :: d1, d2, k => by simp only [List.cons_append, mkL, szL, mkL_app d1 d2]; rw [Nat.add_assoc]
theorem mkL_get (ds : List D) (k m : Nat) (d : D) (h : ds[m]? = some d) : (mkL k ds)[m]? = some (mkD (k + szL (ds.take m)) d) := by
  obtain ⟨hm, rfl⟩ := List.getElem?_eq_some_iff.1 h
  have e : ds = ds.take m ++ ds[m] :: ds.drop (m + 1) := by rw [← List.drop_eq_getElem_cons hm, List.take_append_drop]
  have hl : (mkL k (ds.take m)).length = m := by rw [mkL_len, List.length_take]; omega
  have e2 : mkL k ds = mkL k (ds.take m) ++ mkD (k + szL (ds.take m)) ds[m] :: mkL (k + szL (ds.take m) + szD ds[m]) (ds.drop (m + 1)) := by
    conv => lhs; rw [e, mkL_app]
    simp only [mkL]
  rw [e2, List.getElem?_append_right (by omega), hl, Nat.sub_self]
  rfl
/-- One cell of several. -/
theorem HoldsL.at {w : World} {B : Nat} {ds : List D} {xs : List Value} {bs : List Nat} (h : HoldsL w B ds xs bs) {m : Nat} {d : D} (hd : ds[m]? = some d) :
    ∃ x f1 bu f2, xs[m]? = some x ∧ bs = f1 ++ (bu ++ f2) ∧ Holds w B d x bu ∧ ∀ (w' : World) (d' : D) (x' : Value), Holds w' B d' x' bu → (∀ b ∈ f1 ++ f2, w'.heap[b]? = w.heap[b]?) → HoldsL w' B (ds.set m d') (xs.set m x') bs := by
  obtain ⟨hm, rfl⟩ := List.getElem?_eq_some_iff.1 hd
  have e : ds = ds.take m ++ ds[m] :: ds.drop (m + 1) := by rw [← List.drop_eq_getElem_cons hm, List.take_append_drop]
  have h2 := h
  rw [e] at h2
  obtain ⟨x1, y, f1, g1, rfl, rfl, h1, hr⟩ := HoldsL.split _ _ _ _ h2
  obtain ⟨x, x2, bu, f2, rfl, rfl, hx, hr2⟩ := holdsL_cons.1 hr
  have hl : x1.length = m := by rw [HoldsL.len _ _ _ h1, List.length_take]; omega
  refine ⟨x, f1, bu, f2, ?_, rfl, hx, ?_⟩
  · rw [List.getElem?_append_right (by omega), hl, Nat.sub_self]; rfl
  · intro w' d' x' hx' hf
    have es : ds.set m d' = ds.take m ++ d' :: ds.drop (m + 1) := by rw [List.set_eq_take_append_cons_drop, if_pos hm]
    have ex : (x1 ++ x :: x2).set m x' = x1 ++ x' :: x2 := by rw [List.set_append_right _ _ (by omega), hl, Nat.sub_self, List.set_cons_zero]
    rw [es, ex]
    exact HoldsL.join _ _ _ _ _ _ (HoldsL.frame _ _ _ h1 (fun b hb => hf b (List.mem_append_left _ hb))) (holdsL_cons.2 ⟨_, _, _, _, rfl, rfl, hx', HoldsL.frame _ _ _ hr2 (fun b hb => hf b (List.mem_append_right _ hb))⟩)
/-- A slice's form. -/
theorem Holds.form {w : World} {B e K n : Nat} {ds : List D} {v : Value} {bs : List Nat} (h : Holds w B (.s e K n ds) v bs) : (v = .slice none 0 0 ∧ n = 0 ∧ ds = []) ∨ ∃ g off cap, v = .slice (some ⟨g, off, none⟩) n cap ∧ B ≤ g ∧ g < w.heap.size ∧ n ≤ cap ∧ ds.length = n * K := by
  obtain ⟨xs, fs, ho, hl, hbs⟩ := holds_s.1 h
  have hlen := HoldsL.len _ _ _ hl
  rcases ho.2 with ⟨hv, h0⟩ | ⟨g, off, cap, cur, hv, hB, hg, hc, _⟩
  · refine .inl ⟨hv, h0, List.length_eq_zero_iff.1 ?_⟩
    rw [← hlen, ho.1, h0, Nat.zero_mul]
  · exact .inr ⟨g, off, cap, hv, hB, (Array.getElem?_eq_some_iff.1 hg).1, hc, by rw [← hlen, ho.1]⟩
theorem Holds.slice {w : World} {B e K n : Nat} {ds : List D} {v : Value} {bs : List Nat} (h : Holds w B (.s e K n ds) v bs) : ∃ a cap, v = .slice a n cap := by
  rcases h.form with ⟨rfl, rfl, _⟩ | ⟨g, off, cap, rfl, _⟩
  · exact ⟨none, 0, rfl⟩
  · exact ⟨_, cap, rfl⟩
/-- A cell of a slice that holds a plain value. -/
theorem Holds.cell {w : World} {B e K n g off cap : Nat} {ds : List D} {bs : List Nat} (h : Holds w B (.s e K n ds) (.slice (some ⟨g, off, none⟩) n cap) bs) {m : Nat} {u : Value} (hu : ds[m]? = some (.c u)) : w.cell? ⟨g, off + m, none⟩ = some u := by
  obtain ⟨xs, fs, ho, hl, hbs⟩ := holds_s.1 h
  obtain ⟨x, _, _, _, hx, _, hh, _⟩ := hl.at hu
  have hm := (List.getElem?_eq_some_iff.1 hx).1
  rw [ho.cellAt m (by rw [← ho.1]; exact hm), hx, (holds_c.1 hh).1]
theorem Holds.frozen {w : World} {B e K n g off cap : Nat} {ds : List D} {bs : List Nat} (h : Holds w B (.s e K n ds) (.slice (some ⟨g, off, none⟩) n cap) bs) (o : Nat) : w.frozen? ⟨g, o, none⟩ = false := by
  obtain ⟨xs, fs, ho, hl, hbs⟩ := holds_s.1 h
  exact ho.frozenAt o
/-- A cell of a slice that holds a slice. -/
theorem Holds.sub {w : World} {B e K n g off cap e' K' n' : Nat} {ds ds' : List D} {bs : List Nat} (h : Holds w B (.s e K n ds) (.slice (some ⟨g, off, none⟩) n cap) bs) {m : Nat} (hu : ds[m]? = some (.s e' K' n' ds')) : ∃ u bu, w.cell? ⟨g, off + m, none⟩ = some u ∧ Holds w B (.s e' K' n' ds') u bu ∧ (∀ b ∈ bu, b ∈ bs) ∧ (bs.Nodup → bu.Nodup ∧ g ∉ bu ∧ ∀ (w' : World) (d' : D), Only bu w w' → Holds w' B d' u bu → Holds w' B (.s e K n (ds.set m d')) (.slice (some ⟨g, off, none⟩) n cap) bs) := by
  obtain ⟨xs, fs, ho, hl, hbs⟩ := holds_s.1 h
  obtain ⟨x, f1, bu, f2, hx, hf, hh, hk⟩ := hl.at hu
  have hm := (List.getElem?_eq_some_iff.1 hx).1
  have hg : (Value.slice (some ⟨g, off, none⟩) n cap).ownBlock.toList = [g] := rfl
  rw [hg] at hbs
  refine ⟨x, bu, by rw [ho.cellAt m (by rw [← ho.1]; exact hm), hx], hh, ?_, ?_⟩
  · intro b hb
    rw [hbs, hf]
    simp [hb]
  · intro hnd
    rw [hbs, hf] at hnd
    simp only [List.singleton_append, List.nodup_cons, List.mem_append, not_or, List.nodup_append] at hnd
    obtain ⟨⟨n1, n2, n3⟩, hn1, ⟨hn2, hn3, q1⟩, q2⟩ := hnd
    refine ⟨hn2, n2, ?_⟩
    intro w' d' hon hd'
    have hlt := HoldsL.lt _ _ _ hl
    have hbd : ∀ b ∈ f1 ++ f2, w'.heap[b]? = w.heap[b]? := fun b hb => hon.block b (hlt b (by rw [hf]; rcases List.mem_append.1 hb with h | h <;> simp [h])).2 (fun hm => by
      rcases List.mem_append.1 hb with h | h
      · exact q2 b h b (.inl hm) rfl
      · exact q1 b hm b h rfl)
    have hx2 := hk w' d' x hd' hbd
    have es : xs.set m x = xs := by rw [List.getElem?_eq_some_iff] at hx; obtain ⟨_, rfl⟩ := hx; exact List.set_getElem_self _
    rw [es] at hx2
    refine holds_s.2 ⟨xs, fs, row_only ho hon (fun b hb => by cases hb; exact n2), hx2, ?_⟩
    rw [hg, hbs]
/-- A plain value put into a cell. -/
theorem Holds.put {w : World} {B e K n g off cap : Nat} {ds : List D} {bs : List Nat} (h : Holds w B (.s e K n ds) (.slice (some ⟨g, off, none⟩) n cap) bs) (hnd : bs.Nodup) {m : Nat} {u : Value} (hu : ds[m]? = some (.c u)) (u' : Value) : Holds (w.setCell ⟨g, off + m, none⟩ u') B (.s e K n (ds.set m (.c u'))) (.slice (some ⟨g, off, none⟩) n cap) bs ∧ Only [g] w (w.setCell ⟨g, off + m, none⟩ u') := by
  obtain ⟨xs, fs, ho, hl, hbs⟩ := holds_s.1 h
  obtain ⟨x, f1, bu, f2, hx, hf, hh, hk⟩ := hl.at hu
  have hg : (Value.slice (some ⟨g, off, none⟩) n cap).ownBlock.toList = [g] := rfl
  rw [hg] at hbs
  obtain ⟨rfl, rfl⟩ := holds_c.1 hh
  have hst := ho.stored m u'
  have hon := Only.of_some hst.2
  rw [hbs] at hnd
  have hng : g ∉ fs := by simp only [List.singleton_append, List.nodup_cons] at hnd; exact hnd.1
  have hlt := HoldsL.lt _ _ _ hl
  have hx2 := hk (w.setCell ⟨g, off + m, none⟩ u') (.c u') u' (holds_c.2 ⟨rfl, rfl⟩) (fun b hb => hon.block b (hlt b (by rw [hf]; rcases List.mem_append.1 hb with h | h <;> simp [h])).2 (fun hm => by
    rw [List.mem_singleton.1 hm] at hb
    exact hng (by rw [hf]; rcases List.mem_append.1 hb with h | h <;> simp [h])))
  exact ⟨holds_s.2 ⟨_, _, hst.1, hx2, by rw [hg, hbs]⟩, hon⟩
theorem flat_get {α : Type} (f : α → List D) (K : Nat) (hf : ∀ a, (f a).length = K) : ∀ (os : List α) (i j : Nat) (hi : i < os.length), j < K → (os.flatMap f)[i * K + j]? = (f os[i])[j]?
  | [], i, j, hi, _ => by simp at hi
  | o :: os, 0, j, _, hj => by
    rw [List.flatMap_cons, Nat.zero_mul, Nat.zero_add, List.getElem?_append_left (by rw [hf]; exact hj)]; rfl
  | o :: os, i + 1, j, hi, hj => by
    have hi' : i < os.length := by simpa using hi
    rw [List.flatMap_cons, List.getElem?_append_right (by rw [hf, Nat.succ_mul]; omega), hf, show (i + 1) * K + j - K = i * K + j by rw [Nat.succ_mul]; omega, flat_get f K hf os i j hi' hj]
    rfl

set_option maxRecDepth 100000
/-- The cells of a slice that came in, as values. -/
def ArrP (w : World) (a : Option Addr) (vs : List Value) : Prop := ∀ j, j < vs.length → ∃ b off, a = some ⟨b, off, none⟩ ∧ b < w.heap.size ∧ w.cell? ⟨b, off + j, none⟩ = vs[j]?
theorem ArrP.below {B : Nat} {w w' : World} {a : Option Addr} {vs : List Value} (h : ArrP w a vs) (hb : Below B w w') (hB : w.heap.size ≤ B) : ArrP w' a vs := by
  intro j hj
  obtain ⟨b, off, e, hs, hc⟩ := h j hj
  exact ⟨b, off, e, Nat.lt_of_lt_of_le hs hb.size, by rw [hb.cell (p := ⟨b, off + j, none⟩) (by show b < B; omega)]; exact hc⟩
/-- A row that is being filled: its first m cells are known. -/
def FilledV (w : World) (B e K : Nat) (v : Value) (n : Nat) (vs : List Value) (m : Nat) : Prop := ∃ xs, w.ownsRow B e K v n xs ∧ ∀ q, q < m → xs[q]? = vs[q]?
theorem FilledV.next {w w' : World} {B e K n m : Nat} {v : Value} {vs : List Value} (h : FilledV w B e K v n vs m) (hb : Below w.heap.size w w') : FilledV w' B e K v n vs m := by
  obtain ⟨xs, ho, hx⟩ := h
  refine ⟨xs, ⟨ho.1, ?_⟩, hx⟩
  rcases ho.2 with h0 | ⟨g, cap, cur, hv, hB, hg, hrest⟩
  · exact .inl h0
  · exact .inr ⟨g, cap, cur, hv, hB, by rw [hb.block g (Array.getElem?_eq_some_iff.1 hg).1]; exact hg, hrest⟩
theorem FilledV.frozen {w : World} {B e K n m g cap : Nat} {vs : List Value} (h : FilledV w B e K (.slice (some ⟨g, 0, none⟩) n cap) n vs m) (q : Nat) : w.frozen? ⟨g, q, none⟩ = false := by
  obtain ⟨xs, ho, hx⟩ := h
  exact ho.frozenAt q
theorem FilledV.step {w : World} {B e K n m g cap : Nat} {vs : List Value} {u : Value} (h : FilledV w B e K (.slice (some ⟨g, 0, none⟩) n cap) n vs m) (hm : m < n * K) (hz : vs[m]? = some u) : FilledV (w.setCell ⟨g, m, none⟩ u) B e K (.slice (some ⟨g, 0, none⟩) n cap) n vs (m + 1) := by
  obtain ⟨xs, ho, hx⟩ := h
  refine ⟨xs.set m u, (ho.stored m _).1, fun q hq => ?_⟩
  by_cases e : q = m
  · subst e; rw [hz]; exact List.getElem?_set_self (by rw [ho.1]; exact hm)
  · rw [List.getElem?_set_ne (fun h => e h.symm)]; exact hx q (by omega)
theorem vat {α : Type} (f : α → List Value) (K : Nat) (hf : ∀ a, (f a).length = K) : ∀ (os : List α) (i j : Nat) (hi : i < os.length), j < K → (os.flatMap f)[i * K + j]? = (f os[i])[j]?
  | [], i, j, hi, _ => by simp at hi
  | o :: os, 0, j, _, hj => by
    rw [List.flatMap_cons, Nat.zero_mul, Nat.zero_add, List.getElem?_append_left (by rw [hf]; exact hj)]; rfl
  | o :: os, i + 1, j, hi, hj => by
    have hi' : i < os.length := by simpa using hi
    rw [List.flatMap_cons, List.getElem?_append_right (by rw [hf, Nat.succ_mul]; omega), hf, show (i + 1) * K + j - K = i * K + j by rw [Nat.succ_mul]; omega, vat f K hf os i j hi' hj]
    rfl
theorem vlen {α : Type} (f : α → List Value) (K : Nat) (hf : ∀ a, (f a).length = K) : ∀ (os : List α), (os.flatMap f).length = os.length * K
  | [] => by simp
  | o :: os => by rw [List.flatMap_cons, List.length_append, hf, vlen f K hf os, List.length_cons, Nat.succ_mul]; omega


structure PieceM where
  f0 : Int
  f1 : Int
  f2 : Int
  f3 : Int
  f4 : Bool
  f5 : Bool
def dPiece (o : PieceM) : List D := [.c (.int .i64 o.f0), .c (.int .i64 o.f1), .c (.int .i64 o.f2), .c (.int .i64 o.f3), .c (.bool o.f4), .c (.bool o.f5)]
theorem dPiece_len (o : PieceM) : (dPiece o).length = 6 := rfl
theorem Piece_at0 (os : List PieceM) (i : Nat) (h : i < os.length) : (os.flatMap dPiece)[i * 6]? = some (.c (.int .i64 os[i].f0)) := flat_get dPiece 6 dPiece_len os i 0 h (by omega)
theorem Piece_at1 (os : List PieceM) (i : Nat) (h : i < os.length) : (os.flatMap dPiece)[i * 6 + 1]? = some (.c (.int .i64 os[i].f1)) := flat_get dPiece 6 dPiece_len os i 1 h (by omega)
theorem Piece_at2 (os : List PieceM) (i : Nat) (h : i < os.length) : (os.flatMap dPiece)[i * 6 + 2]? = some (.c (.int .i64 os[i].f2)) := flat_get dPiece 6 dPiece_len os i 2 h (by omega)
theorem Piece_at3 (os : List PieceM) (i : Nat) (h : i < os.length) : (os.flatMap dPiece)[i * 6 + 3]? = some (.c (.int .i64 os[i].f3)) := flat_get dPiece 6 dPiece_len os i 3 h (by omega)
theorem Piece_at4 (os : List PieceM) (i : Nat) (h : i < os.length) : (os.flatMap dPiece)[i * 6 + 4]? = some (.c (.bool os[i].f4)) := flat_get dPiece 6 dPiece_len os i 4 h (by omega)
theorem Piece_at5 (os : List PieceM) (i : Nat) (h : i < os.length) : (os.flatMap dPiece)[i * 6 + 5]? = some (.c (.bool os[i].f5)) := flat_get dPiece 6 dPiece_len os i 5 h (by omega)
def valPiece (o : PieceM) : List Value := [.int .i64 o.f0, .int .i64 o.f1, .int .i64 o.f2, .int .i64 o.f3, .bool o.f4, .bool o.f5]
theorem valPiece_len (o : PieceM) : (valPiece o).length = 6 := rfl
theorem Piece_val0 (os : List PieceM) (i : Nat) (h : i < os.length) : (os.flatMap valPiece)[i * 6]? = some (.int .i64 os[i].f0) := vat valPiece 6 valPiece_len os i 0 h (by omega)
theorem Piece_val1 (os : List PieceM) (i : Nat) (h : i < os.length) : (os.flatMap valPiece)[i * 6 + 1]? = some (.int .i64 os[i].f1) := vat valPiece 6 valPiece_len os i 1 h (by omega)
theorem Piece_val2 (os : List PieceM) (i : Nat) (h : i < os.length) : (os.flatMap valPiece)[i * 6 + 2]? = some (.int .i64 os[i].f2) := vat valPiece 6 valPiece_len os i 2 h (by omega)
theorem Piece_val3 (os : List PieceM) (i : Nat) (h : i < os.length) : (os.flatMap valPiece)[i * 6 + 3]? = some (.int .i64 os[i].f3) := vat valPiece 6 valPiece_len os i 3 h (by omega)
theorem Piece_val4 (os : List PieceM) (i : Nat) (h : i < os.length) : (os.flatMap valPiece)[i * 6 + 4]? = some (.bool os[i].f4) := vat valPiece 6 valPiece_len os i 4 h (by omega)
theorem Piece_val5 (os : List PieceM) (i : Nat) (h : i < os.length) : (os.flatMap valPiece)[i * 6 + 5]? = some (.bool os[i].f5) := vat valPiece 6 valPiece_len os i 5 h (by omega)
theorem Try.infoPiece : (Try.prog.info? 48).map (fun i => (i.zero, i.size, i.bytes)) = some (some (.agg #[.int .i64 0, .int .i64 0, .int .i64 0, .int .i64 0, .bool false, .bool false]), 6, 40) := by kernel_rfl
set_option maxRecDepth 100000
/-- What stays as long as these blocks stay. -/
structure Keep (F : List Nat) (P : World → Prop) (W : World) : Prop where
  here : P W
  lt : ∀ b ∈ F, b < W.heap.size
  frame : ∀ W', (∀ b ∈ F, W'.heap[b]? = W.heap[b]?) → P W'
theorem Keep.move {F : List Nat} {P : World → Prop} {W W' : World} (h : Keep F P W) (hs : W.heap.size ≤ W'.heap.size) (hk : ∀ b ∈ F, W'.heap[b]? = W.heap[b]?) : Keep F P W' :=
  ⟨h.frame W' hk, fun b hb => Nat.lt_of_lt_of_le (h.lt b hb) hs, fun V hv => h.frame V (fun b hb => (hv b hb).trans (hk b hb))⟩
theorem Keep.next {F : List Nat} {P : World → Prop} {W W' : World} (h : Keep F P W) (hb : Below W.heap.size W W') : Keep F P W' :=
  h.move hb.size (fun b hm => hb.block b (h.lt b hm))
/-- A row of pieces of one's own. -/
abbrev OwnP (w : World) (B : Nat) (v : Value) (os : List PieceM) : Prop := ownsAt w B 48 6 v os.length (os.flatMap valPiece)
theorem arrP_own {w : World} {B e K n : Nat} {v : Value} {vs : List Value} (h : ownsAt w B e K v n vs) : ∃ (a : Option Addr) (c : Nat), v = .slice a n c ∧ ArrP w a vs ∧ n ≤ c ∧ vs.length = n * K := by
  have h0 := h
  obtain ⟨hl, h⟩ := h
  rcases h with ⟨rfl, rfl⟩ | ⟨g, off, cap, cur, rfl, hB, hg, hle, hfit, hrest⟩
  · refine ⟨none, 0, rfl, fun j hj => ?_, Nat.le_refl _, hl⟩
    rw [hl] at hj; omega
  · exact ⟨_, _, rfl, fun j hj => ⟨g, off, rfl, (Array.getElem?_eq_some_iff.1 hg).1, h0.cellAt j (by rw [← hl]; exact hj)⟩, hle, hl⟩
theorem below_drew {C : Nat} {w w' : World} (h : Below C w.drew w') : Below C w w' := ⟨h.os, h.tape, h.output, h.size, h.block⟩
set_option maxRecDepth 100000
theorem In_yes (n a b : Int) (w : World) (h : a ≤ n ∧ n ≤ b) :
    Calls Try.prog 23 #[.int .i64 n, .int .i64 a, .int .i64 b] w fun e w' => e = .returned (.bool true) ∧ w' = w := by
  obtain ⟨h1, h2⟩ := h
  go_enter Try.func23, Try.ntmps23
  go_wp2
  go_ret
  exact ⟨rfl, rfl⟩
theorem In_no (n a b : Int) (w : World) (h : ¬ (a ≤ n ∧ n ≤ b)) :
    Calls Try.prog 23 #[.int .i64 n, .int .i64 a, .int .i64 b] w fun e w' => e = .returned (.bool false) ∧ w' = w := by
  by_cases h1 : a ≤ n
  · have h2 : ¬ n ≤ b := fun h2 => h ⟨h1, h2⟩
    clear h
    go_enter Try.func23, Try.ntmps23
    go_wp2
    go_ret
    exact ⟨rfl, rfl⟩
  · clear h
    go_enter Try.func23, Try.ntmps23
    go_wp2
    go_ret
    exact ⟨rfl, rfl⟩

def inB (x l h : Int) : Bool := decide (l ≤ x ∧ x ≤ h)
theorem inB_iff {x l h : Int} : inB x l h = true ↔ l ≤ x ∧ x ≤ h := by unfold inB; simp
theorem In_walk (n l h : Int) (w : World) :
    Calls Try.prog 23 #[.int .i64 n, .int .i64 l, .int .i64 h] w fun e w' => e = .returned (.bool (inB n l h)) ∧ w' = w := by
  by_cases hh : l ≤ n ∧ n ≤ h
  · rw [inB_iff.2 hh]; exact In_yes n l h w hh
  · rw [show inB n l h = false by unfold inB; exact decide_eq_false hh]; exact In_no n l h w hh

/-- A box laid at the world's end, and kept. -/
def BoxV (w W : World) (vs : Array Value) (T : Nat) : Prop := Below w.heap.size w W ∧ w.heap.size < W.heap.size ∧ W.heap[w.heap.size]? = some (.cells vs T)
theorem BoxV.start (w : World) (vs : Array Value) (T : Nat) : BoxV w (w.alloc (.cells vs T)) vs T :=
  ⟨(Below.refl _ _).alloc (Nat.le_refl _) _, by rw [World.size_alloc]; omega, heap_alloc_new _ _⟩
theorem BoxV.next {w W W' : World} {vs : Array Value} {T : Nat} (h : BoxV w W vs T) (hb : Below W.heap.size W W') : BoxV w W' vs T :=
  ⟨h.1.trans (hb.mono (Nat.le_of_lt h.2.1)), Nat.lt_of_lt_of_le h.2.1 hb.size, (hb.block _ h.2.1).trans h.2.2⟩
theorem BoxV.keep {w W W' : World} {vs : Array Value} {T B : Nat} (h : BoxV w W vs T) (hb : Below B W W') (hB : w.heap.size < B) : BoxV w W' vs T :=
  ⟨h.1.trans (hb.mono (Nat.le_of_lt hB)), Nat.lt_of_lt_of_le h.2.1 hb.size, (hb.block _ hB).trans h.2.2⟩
def HoldV (w : World) (H : Nat) (vs : Array Value) (T : Nat) : Prop := w.heap[H]? = some (.cells vs T)
theorem HoldV.lt {w : World} {H T : Nat} {vs : Array Value} (h : HoldV w H vs T) : H < w.heap.size := (Array.getElem?_eq_some_iff.1 h).1
theorem HoldV.below {w w' : World} {H T B : Nat} {vs : Array Value} (h : HoldV w H vs T) (hb : Below B w w') (hB : H < B) : HoldV w' H vs T := (hb.block H hB).trans h
theorem HoldV.next {w w' : World} {H T : Nat} {vs : Array Value} (h : HoldV w H vs T) (hb : Below w.heap.size w w') : HoldV w' H vs T := h.below hb h.lt
theorem HoldV.cell {w : World} {H T : Nat} {vs : Array Value} (h : HoldV w H vs T) (i : Nat) (v : Value) (hv : vs[i]? = some v) : w.cell? ⟨H, i, none⟩ = some v := (cell_of_row _ _ _ _ _ _ h).trans hv
theorem HoldV.frozen {w : World} {H T : Nat} {vs : Array Value} (h : HoldV w H vs T) (o : Nat) : w.frozen? ⟨H, o, none⟩ = false := frozen_of_row w H o _ _ h
theorem two_allocs (w : World) (o1 o2 : Obj) : Below w.heap.size w ((w.alloc o1).alloc o2) ∧ ((w.alloc o1).alloc o2).heap[w.heap.size]? = some o1 ∧ ((w.alloc o1).alloc o2).heap[w.heap.size + 1]? = some o2 := by
  have s1 := World.size_alloc w o1
  refine ⟨((Below.refl _ _).alloc (Nat.le_refl _) _).alloc (by omega) _, ?_, ?_⟩
  · rw [((Below.refl (w.alloc o1).heap.size _).alloc (Nat.le_refl _) o2).block w.heap.size (by omega)]; exact heap_alloc_new _ _
  · rw [← s1]; exact heap_alloc_new _ _
theorem BoxV.cell {w W : World} {vs : Array Value} {T : Nat} (h : BoxV w W vs T) (i : Nat) (v : Value) (hv : vs[i]? = some v) : W.cell? ⟨w.heap.size, i, none⟩ = some v := cell_of_row _ _ _ _ _ _ h.2.2 |>.trans hv
theorem lt_cell {w : World} {b i : Nat} {v : Value} (h : w.cell? ⟨b, i, none⟩ = some v) : b < w.heap.size := by
  rcases Nat.lt_or_ge b w.heap.size with h' | h'
  · exact h'
  · simp [World.cell?, Array.getElem?_eq_none h'] at h

/-- A piece is valid, wherever it begins. -/
def vp (o : PieceM) : Prop := o.f0 < o.f1 ∧ (0 ≤ o.f2 ∧ o.f2 ≤ 1000000000) ∧ (1 ≤ o.f3 ∧ o.f3 ≤ 1000000) ∧ ¬ (o.f4 = true ∧ o.f5 = true)
instance (o : PieceM) : Decidable (vp o) := by unfold vp; infer_instance
/-- Where valid pieces end that begin one at the other's end, the first one at a; nowhere if they don't. -/
def chk : Int → List PieceM → Option Int
  | a, [] => some a
  | a, o :: os => if o.f0 = a ∧ vp o then chk o.f1 os else none
/-- A board is valid. -/
def bOK (u x : Int) (os : List PieceM) : Prop := 0 ≤ u ∧ x ≤ 1099511627776 ∧ os.length ≤ 4096 ∧ chk u os = some x
instance (u x : Int) (os : List PieceM) : Decidable (bOK u x os) := by unfold bOK; infer_instance
def bokB (u x : Int) (os : List PieceM) : Bool := decide (bOK u x os)
theorem bokB_yes {u x : Int} {os : List PieceM} (h : bOK u x os) : bokB u x os = true := decide_eq_true h
theorem bokB_no {u x : Int} {os : List PieceM} (h : ¬ bOK u x os) : bokB u x os = false := decide_eq_false h
theorem chk_cons {a : Int} {o : PieceM} {os : List PieceM} (h0 : o.f0 = a) (hv : vp o) : chk a (o :: os) = chk o.f1 os := if_pos ⟨h0, hv⟩
theorem chk_ill {a : Int} {o : PieceM} {os : List PieceM} (h : ¬ (o.f0 = a ∧ vp o)) : chk a (o :: os) = none := if_neg h
theorem chk_le : ∀ (os : List PieceM) (a x : Int), chk a os = some x → a ≤ x
  | [], a, x, h => by cases h; exact Int.le_refl _
  | o :: os, a, x, h => by
    unfold chk at h
    split at h
    · rename_i hh
      have := chk_le os _ _ h
      have := hh.2.1
      omega
    · cases h
theorem chk_mem : ∀ (os : List PieceM) (a x : Int), chk a os = some x → ∀ o ∈ os, a ≤ o.f0 ∧ o.f1 ≤ x ∧ vp o
  | [], _, _, _, o, ho => by cases ho
  | p :: os, a, x, h, o, ho => by
    unfold chk at h
    split at h
    · rename_i hh
      have hl := chk_le os _ _ h
      have hv := hh.2.1
      rcases List.mem_cons.1 ho with rfl | ho
      · exact ⟨by omega, hl, hh.2⟩
      · have := chk_mem os _ _ h o ho
        exact ⟨by omega, this.2⟩
    · cases h
theorem chk_drop {os : List PieceM} {i : Nat} (h : i < os.length) : os.drop i = os[i] :: os.drop (i + 1) := List.drop_eq_getElem_cons h
/-- The six cells of a piece of a row that came in. -/
theorem piece_cells {w : World} {a : Option Addr} {os : List PieceM} (h : ArrP w a (os.flatMap valPiece)) {i : Nat} (hi : i < os.length) : ∃ b off, a = some ⟨b, off, none⟩ ∧ b < w.heap.size ∧ w.cell? ⟨b, off + i * 6, none⟩ = some (.int .i64 os[i].f0) ∧ w.cell? ⟨b, off + i * 6 + 1, none⟩ = some (.int .i64 os[i].f1) ∧ w.cell? ⟨b, off + i * 6 + 2, none⟩ = some (.int .i64 os[i].f2) ∧ w.cell? ⟨b, off + i * 6 + 3, none⟩ = some (.int .i64 os[i].f3) ∧ w.cell? ⟨b, off + i * 6 + 4, none⟩ = some (.bool os[i].f4) ∧ w.cell? ⟨b, off + i * 6 + 5, none⟩ = some (.bool os[i].f5) := by
  have hl : (os.flatMap valPiece).length = os.length * 6 := vlen valPiece 6 valPiece_len os
  obtain ⟨b, off, rfl, hb, h0⟩ := h (i * 6) (by omega)
  refine ⟨b, off, rfl, hb, h0.trans (Piece_val0 os i hi), ?_, ?_, ?_, ?_, ?_⟩
  · obtain ⟨b', o', e, _, c⟩ := h (i * 6 + 1) (by omega); cases e; exact c.trans (Piece_val1 os i hi)
  · obtain ⟨b', o', e, _, c⟩ := h (i * 6 + 2) (by omega); cases e; exact c.trans (Piece_val2 os i hi)
  · obtain ⟨b', o', e, _, c⟩ := h (i * 6 + 3) (by omega); cases e; exact c.trans (Piece_val3 os i hi)
  · obtain ⟨b', o', e, _, c⟩ := h (i * 6 + 4) (by omega); cases e; exact c.trans (Piece_val4 os i hi)
  · obtain ⟨b', o', e, _, c⟩ := h (i * 6 + 5) (by omega); cases e; exact c.trans (Piece_val5 os i hi)
abbrev pcV (o : PieceM) : Value := .agg #[.int .i64 o.f0, .int .i64 o.f1, .int .i64 o.f2, .int .i64 o.f3, .bool o.f4, .bool o.f5]
theorem isTime_walk (n : Int) (w : World) : Calls Try.prog 26 #[.int .i64 n] w fun e w' => e = .returned (.bool (inB n 0 1000000000)) ∧ w' = w := by
  by_cases h : 0 ≤ n ∧ n ≤ 1000000000
  · rw [inB_iff.2 h]
    obtain ⟨h1, h2⟩ := h
    go_enter Try.func26, Try.ntmps26
    go_wp2
    go_ret
    exact ⟨rfl, rfl⟩
  · rw [show inB n 0 1000000000 = false from decide_eq_false h]
    by_cases h1 : 0 ≤ n
    · have h2 : ¬ n ≤ 1000000000 := fun h2 => h ⟨h1, h2⟩
      clear h
      go_enter Try.func26, Try.ntmps26
      go_wp2
      go_ret
      exact ⟨rfl, rfl⟩
    · clear h
      go_enter Try.func26, Try.ntmps26
      go_wp2
      go_ret
      exact ⟨rfl, rfl⟩
def vpB (o : PieceM) : Bool := decide (vp o)
set_option maxRecDepth 100000
/-- A pointer to a block's first cell, or none. -/
abbrev ptO (o : Option Nat) : Value := .pointer (o.map fun b => ⟨b, 0, none⟩)
abbrev lpT : Nat := 75
abbrev plT : Nat := 80
/-- A linked piece's cells. -/
abbrev lpV (o : PieceM) (a b : Option Nat) : Array Value := #[.int .i64 o.f0, .int .i64 o.f1, .int .i64 o.f2, .int .i64 o.f3, .bool o.f4, .bool o.f5, ptO a, ptO b]
/-- The first block of a row of linked pieces, or what is behind it. -/
def fstO (ns : List (Nat × PieceM)) (nx : Option Nat) : Option Nat := match ns with | [] => nx | p :: _ => some p.1
/-- The last block of a row of linked pieces, or what is ahead of it. -/
def lstO (pv : Option Nat) (ns : List (Nat × PieceM)) : Option Nat := match ns with | [] => pv | p :: r => lstO (some p.1) r
theorem lstO_app : ∀ (a b : List (Nat × PieceM)) (pv : Option Nat), lstO pv (a ++ b) = lstO (lstO pv a) b
  | [], _, _ => rfl
  | p :: a, b, pv => lstO_app a b (some p.1)
theorem lstO_snoc (a : List (Nat × PieceM)) (p : Nat × PieceM) (pv : Option Nat) : lstO pv (a ++ [p]) = some p.1 := by rw [lstO_app]; rfl
theorem fstO_app (a b : List (Nat × PieceM)) (nx : Option Nat) : fstO (a ++ b) nx = fstO a (fstO b nx) := by cases a <;> rfl
/-- Linked pieces in memory, between two others. -/
def Seg (w : World) (pv : Option Nat) (ns : List (Nat × PieceM)) (nx : Option Nat) : Prop := match ns with
  | [] => True
  | p :: r => HoldV w p.1 (lpV p.2 pv (fstO r nx)) lpT ∧ Seg w (some p.1) r nx
theorem seg_app {w : World} : ∀ (a b : List (Nat × PieceM)) (pv nx : Option Nat), Seg w pv (a ++ b) nx ↔ Seg w pv a (fstO b nx) ∧ Seg w (lstO pv a) b nx
  | [], b, pv, nx => by simp [Seg, lstO]
  | p :: a, b, pv, nx => by
    show HoldV w p.1 (lpV p.2 pv (fstO (a ++ b) nx)) lpT ∧ Seg w (some p.1) (a ++ b) nx ↔ (HoldV w p.1 (lpV p.2 pv (fstO a (fstO b nx))) lpT ∧ Seg w (some p.1) a (fstO b nx)) ∧ Seg w (lstO (some p.1) a) b nx
    rw [fstO_app, seg_app a b]
    exact and_assoc.symm
/-- The blocks of linked pieces. -/
abbrev bks (ns : List (Nat × PieceM)) : List Nat := ns.map Prod.fst
theorem Seg.frame {w w' : World} : ∀ {ns : List (Nat × PieceM)} {pv nx : Option Nat}, Seg w pv ns nx → (∀ b ∈ bks ns, w'.heap[b]? = w.heap[b]?) → Seg w' pv ns nx
  | [], _, _, _, _ => trivial
  | p :: r, pv, nx, h, hk => ⟨(hk p.1 (by simp)).trans h.1, Seg.frame h.2 (fun b hb => hk b (by simp at hb ⊢; exact .inr hb))⟩
theorem Seg.lt {w : World} : ∀ {ns : List (Nat × PieceM)} {pv nx : Option Nat}, Seg w pv ns nx → ∀ b ∈ bks ns, b < w.heap.size
  | [], _, _, _, b, hb => by simp at hb
  | p :: r, pv, nx, h, b, hb => by
    simp at hb
    rcases hb with rfl | hb
    · exact h.1.lt
    · exact Seg.lt h.2 b (by simp; exact hb)
/-- The cells of a list of pieces. -/
abbrev plV (u x : Int) (ns : List (Nat × PieceM)) : Array Value := #[.int .i64 u, .int .i64 x, .int .i64 (ns.length : Int), ptO (fstO ns none), ptO (lstO none ns)]
/-- A list of pieces in memory, in blocks of this call's own. -/
structure DL (w : World) (B L : Nat) (u x : Int) (ns : List (Nat × PieceM)) : Prop where
  head : HoldV w L (plV u x ns) plT
  seg : Seg w none ns none
  nd : (L :: bks ns).Nodup
  lo : ∀ b ∈ L :: bks ns, B ≤ b
theorem DL.frame {w w' : World} {B L : Nat} {u x : Int} {ns : List (Nat × PieceM)} (h : DL w B L u x ns) (hk : ∀ b ∈ L :: bks ns, w'.heap[b]? = w.heap[b]?) : DL w' B L u x ns :=
  ⟨(hk L (by simp)).trans h.head, h.seg.frame (fun b hb => hk b (List.mem_cons_of_mem _ hb)), h.nd, h.lo⟩
theorem DL.lt {w : World} {B L : Nat} {u x : Int} {ns : List (Nat × PieceM)} (h : DL w B L u x ns) : ∀ b ∈ L :: bks ns, b < w.heap.size := by
  intro b hb
  rcases List.mem_cons.1 hb with rfl | hb
  · exact h.head.lt
  · exact h.seg.lt b hb
theorem DL.next {w w' : World} {B L : Nat} {u x : Int} {ns : List (Nat × PieceM)} (h : DL w B L u x ns) (hb : Below w.heap.size w w') : DL w' B L u x ns := h.frame (fun b hm => hb.block b (h.lt b hm))
theorem DL.drew {w : World} {B L : Nat} {u x : Int} {ns : List (Nat × PieceM)} (h : DL w B L u x ns) : DL w.drew B L u x ns := h.next (Below.refl _ _).drew
/-- One of the linked pieces. -/
theorem DL.at {w : World} {B L : Nat} {u x : Int} {xs ys : List (Nat × PieceM)} {b : Nat} {o : PieceM} (h : DL w B L u x (xs ++ (b, o) :: ys)) : HoldV w b (lpV o (lstO none xs) (fstO ys none)) lpT := ((seg_app xs _ _ _).1 h.seg).2.1
theorem nd_mid {b : Nat} {o : PieceM} {xs ys : List (Nat × PieceM)} {L : Nat} (h : (L :: bks (xs ++ (b, o) :: ys)).Nodup) : b ∉ bks xs ∧ b ∉ bks ys ∧ b ≠ L := by
  simp [bks, List.nodup_append, List.nodup_cons] at h
  obtain ⟨⟨h1, h2, h3⟩, h4, ⟨h5, h6⟩, h7⟩ := h
  refine ⟨?_, ?_, fun e => h2 e.symm⟩
  · simp only [bks, List.mem_map, Prod.exists, exists_and_right, exists_eq_right, not_exists]
    intro o' ho'
    exact (h7 b o' ho').1 rfl
  · simpa [bks] using h5
/-- A linked piece's own cells are put anew. -/
theorem DL.put {w w' : World} {B L : Nat} {u x : Int} {xs ys : List (Nat × PieceM)} {b : Nat} {o : PieceM} (h : DL w B L u x (xs ++ (b, o) :: ys)) (o' : PieceM)
    (hv : HoldV w' b (lpV o' (lstO none xs) (fstO ys none)) lpT) (hk : ∀ c, c ≠ b → c < w.heap.size → w'.heap[c]? = w.heap[c]?) : DL w' B L u x (xs ++ (b, o') :: ys) := by
  obtain ⟨h1, h2, h3⟩ := nd_mid h.nd
  have hb : bks (xs ++ (b, o') :: ys) = bks (xs ++ (b, o) :: ys) := by simp [bks]
  obtain ⟨s1, s2, s3⟩ := (seg_app xs _ _ _).1 h.seg
  refine ⟨?_, (seg_app xs _ _ _).2 ⟨s1.frame (fun c hc => hk c (fun e => h1 (e ▸ hc)) (s1.lt c hc)), hv, s3.frame (fun c hc => hk c (fun e => h2 (e ▸ hc)) (s3.lt c hc))⟩, by rw [hb]; exact h.nd, by rw [hb]; exact h.lo⟩
  have e : plV u x (xs ++ (b, o') :: ys) = plV u x (xs ++ (b, o) :: ys) := by
    unfold plV
    rw [fstO_app, fstO_app, lstO_app, lstO_app, List.length_append, List.length_append]
    rfl
  rw [e]
  exact (hk L (fun e => h3 e.symm) h.head.lt).trans h.head
set_option maxRecDepth 100000
theorem hv_set {w : World} {H T : Nat} {vs : Array Value} (h : HoldV w H vs T) (i : Nat) (y : Value) : HoldV (w.setCell ⟨H, i, none⟩ y) H (vs.setIfInBounds i y) T := heap_setCell_same w H i _ _ y h
theorem hv_other {w : World} {H C T : Nat} {vs : Array Value} (h : HoldV w H vs T) (hC : H ≠ C) (i : Nat) (y : Value) : HoldV (w.setCell ⟨C, i, none⟩ y) H vs T := by
  unfold HoldV
  rw [heap_setCell_other _ ⟨C, i, none⟩ H y hC]
  exact h
theorem hv_new (w : World) (vs : Array Value) (T : Nat) : HoldV (w.alloc (.cells vs T)) w.heap.size vs T := heap_alloc_new _ _
theorem hv_alloc {w : World} {H T : Nat} {vs : Array Value} (h : HoldV w H vs T) (o : Obj) : HoldV (w.alloc o) H vs T := h.next ((Below.refl _ _).alloc (Nat.le_refl _) _)
set_option maxHeartbeats 2000000 in
theorem link_walk_nn (L  : Nat) (oA oB : Value) (w : World) (hA : w.cell? ⟨L, 3, none⟩ = some oA) (fA : w.frozen? ⟨L, 3, none⟩ = false) (hB : (w.setCell ⟨L, 3, none⟩ (.pointer none)).cell? ⟨L, 4, none⟩ = some oB) (fB : (w.setCell ⟨L, 3, none⟩ (.pointer none)).frozen? ⟨L, 4, none⟩ = false) :
    Calls Try.prog 62 #[.pointer (some ⟨L, 0, none⟩), .pointer none, .pointer none] w fun e w' => e = .returned (.tuple #[]) ∧ w' = (w.setCell ⟨L, 3, none⟩ (.pointer none)).setCell ⟨L, 4, none⟩ (.pointer none) := by
  go_enter Try.func62, Try.ntmps62
  go_wp2_with fail
  go_end0
  exact ⟨rfl, rfl⟩
set_option maxHeartbeats 2000000 in
theorem link_walk_ns (L q : Nat) (oA oB : Value) (w : World) (hA : w.cell? ⟨L, 3, none⟩ = some oA) (fA : w.frozen? ⟨L, 3, none⟩ = false) (hB : (w.setCell ⟨L, 3, none⟩ (.pointer (some ⟨q, 0, none⟩))).cell? ⟨q, 6, none⟩ = some oB) (fB : (w.setCell ⟨L, 3, none⟩ (.pointer (some ⟨q, 0, none⟩))).frozen? ⟨q, 6, none⟩ = false) :
    Calls Try.prog 62 #[.pointer (some ⟨L, 0, none⟩), .pointer none, .pointer (some ⟨q, 0, none⟩)] w fun e w' => e = .returned (.tuple #[]) ∧ w' = (w.setCell ⟨L, 3, none⟩ (.pointer (some ⟨q, 0, none⟩))).setCell ⟨q, 6, none⟩ (.pointer none) := by
  go_enter Try.func62, Try.ntmps62
  go_wp2_with fail
  go_end0
  exact ⟨rfl, rfl⟩
set_option maxHeartbeats 2000000 in
theorem link_walk_sn (L p : Nat) (oA oB : Value) (w : World) (hA : w.cell? ⟨p, 7, none⟩ = some oA) (fA : w.frozen? ⟨p, 7, none⟩ = false) (hB : (w.setCell ⟨p, 7, none⟩ (.pointer none)).cell? ⟨L, 4, none⟩ = some oB) (fB : (w.setCell ⟨p, 7, none⟩ (.pointer none)).frozen? ⟨L, 4, none⟩ = false) :
    Calls Try.prog 62 #[.pointer (some ⟨L, 0, none⟩), .pointer (some ⟨p, 0, none⟩), .pointer none] w fun e w' => e = .returned (.tuple #[]) ∧ w' = (w.setCell ⟨p, 7, none⟩ (.pointer none)).setCell ⟨L, 4, none⟩ (.pointer (some ⟨p, 0, none⟩)) := by
  go_enter Try.func62, Try.ntmps62
  go_wp2_with fail
  go_end0
  exact ⟨rfl, rfl⟩
set_option maxHeartbeats 2000000 in
theorem link_walk_ss (L p q : Nat) (oA oB : Value) (w : World) (hA : w.cell? ⟨p, 7, none⟩ = some oA) (fA : w.frozen? ⟨p, 7, none⟩ = false) (hB : (w.setCell ⟨p, 7, none⟩ (.pointer (some ⟨q, 0, none⟩))).cell? ⟨q, 6, none⟩ = some oB) (fB : (w.setCell ⟨p, 7, none⟩ (.pointer (some ⟨q, 0, none⟩))).frozen? ⟨q, 6, none⟩ = false) :
    Calls Try.prog 62 #[.pointer (some ⟨L, 0, none⟩), .pointer (some ⟨p, 0, none⟩), .pointer (some ⟨q, 0, none⟩)] w fun e w' => e = .returned (.tuple #[]) ∧ w' = (w.setCell ⟨p, 7, none⟩ (.pointer (some ⟨q, 0, none⟩))).setCell ⟨q, 6, none⟩ (.pointer (some ⟨p, 0, none⟩)) := by
  go_enter Try.func62, Try.ntmps62
  go_wp2_with fail
  go_end0
  exact ⟨rfl, rfl⟩
/-- A new piece between two parts of a list. -/
theorem DL.insert {w w' : World} {B L N : Nat} {u x : Int} {xs ys : List (Nat × PieceM)} {o : PieceM} (h : DL w B L u x (xs ++ ys)) (hN : w.heap.size ≤ N) (hB : B ≤ N)
    (hv : HoldV w' N (lpV o (lstO none xs) (fstO ys none)) lpT) (hL : HoldV w' L (plV u x (xs ++ (N, o) :: ys)) plT) (hxs : Seg w' none xs (some N)) (hys : Seg w' (some N) ys none) : DL w' B L u x (xs ++ (N, o) :: ys) := by
  have hn : N ∉ L :: bks (xs ++ ys) := fun e => by have := h.lt N e; omega
  refine ⟨hL, (seg_app xs _ _ _).2 ⟨hxs, hv, hys⟩, ?_, ?_⟩
  · have hp : (L :: bks (xs ++ (N, o) :: ys)).Perm (N :: L :: bks (xs ++ ys)) := by
      simp only [bks, List.map_append, List.map_cons]
      refine List.Perm.trans ?_ (List.Perm.swap _ _ _)
      exact List.Perm.cons _ List.perm_middle
    exact (hp.nodup_iff).2 (List.nodup_cons.2 ⟨hn, h.nd⟩)
  · intro b hb
    by_cases e : b = N
    · rw [e]; exact hB
    · refine h.lo b ?_
      simp only [bks, List.map_append, List.map_cons, List.mem_cons, List.mem_append] at hb ⊢
      rcases hb with hb | hb | hb | hb
      · exact .inl hb
      · exact .inr (.inl hb)
      · exact absurd hb e
      · exact .inr (.inr hb)
theorem lstO_mid (a b : List (Nat × PieceM)) (p q : Nat × PieceM) (pv : Option Nat) : lstO pv (a ++ p :: q :: b) = lstO pv (a ++ q :: b) := by rw [lstO_app, lstO_app]; rfl
theorem len_int (a b : List (Nat × PieceM)) (p : Nat × PieceM) : ((a ++ p :: b).length : Int) = ((a ++ b).length : Int) + 1 := by simp; omega
set_option maxHeartbeats 4000000 in
theorem put_walk_nn (B L : Nat) (u x : Int) (o : PieceM) (w : World) (h : DL w B L u x (([] : List (Nat × PieceM)) ++ ([] : List (Nat × PieceM)))) (hB : B ≤ w.heap.size) (hl : (([] : List (Nat × PieceM)) ++ ([] : List (Nat × PieceM))).length ≤ 1048576) :
    Calls Try.prog 40 #[.pointer (some ⟨L, 0, none⟩), .pointer none, pcV o, .pointer none] w fun e w' => e = .returned (.tuple #[]) ∧ DL w' B L u x (([] : List (Nat × PieceM)) ++ (w.heap.size + 1, o) :: ([] : List (Nat × PieceM))) ∧ Below B w w' ∧ w'.heap.size = w.heap.size + 2 := by
  have HD := hide h
  obtain ⟨cn, hcn⟩ : ∃ cn : Int, cn = ((([] : List (Nat × PieceM)) ++ ([] : List (Nat × PieceM))).length : Int) := ⟨_, rfl⟩
  have hL0 := h.head
  obtain ⟨sx, sy⟩ := (seg_app ([] : List (Nat × PieceM)) ([] : List (Nat × PieceM)) none none).1 h.seg
  have hnd := h.nd
  have hlt := h.lt
  have lL := hlt L (by simp)
  have hlo : B ≤ L := h.lo L (by simp)
  have hb0 : Below w.heap.size w ((w.alloc (.cells #[.int .i64 o.f0, .int .i64 o.f1, .int .i64 o.f2, .int .i64 o.f3, .bool o.f4, .bool o.f5] 48)).alloc (.cells #[.int .i64 o.f0, .int .i64 o.f1, .int .i64 o.f2, .int .i64 o.f3, .bool o.f4, .bool o.f5, .pointer none, .pointer none] lpT)) := ((Below.refl _ _).alloc (Nat.le_refl _) _).alloc (by simp) _
  have hs0 : ((w.alloc (.cells #[.int .i64 o.f0, .int .i64 o.f1, .int .i64 o.f2, .int .i64 o.f3, .bool o.f4, .bool o.f5] 48)).alloc (.cells #[.int .i64 o.f0, .int .i64 o.f1, .int .i64 o.f2, .int .i64 o.f3, .bool o.f4, .bool o.f5, .pointer none, .pointer none] lpT)).heap.size = w.heap.size + 2 := by rw [World.size_alloc, World.size_alloc]
  have HN0 : HoldV ((w.alloc (.cells #[.int .i64 o.f0, .int .i64 o.f1, .int .i64 o.f2, .int .i64 o.f3, .bool o.f4, .bool o.f5] 48)).alloc (.cells #[.int .i64 o.f0, .int .i64 o.f1, .int .i64 o.f2, .int .i64 o.f3, .bool o.f4, .bool o.f5, .pointer none, .pointer none] lpT)) (w.heap.size + 1) #[.int .i64 o.f0, .int .i64 o.f1, .int .i64 o.f2, .int .i64 o.f3, .bool o.f4, .bool o.f5, .pointer none, .pointer none] lpT := by have := hv_new (w.alloc (.cells #[.int .i64 o.f0, .int .i64 o.f1, .int .i64 o.f2, .int .i64 o.f3, .bool o.f4, .bool o.f5] 48)) #[.int .i64 o.f0, .int .i64 o.f1, .int .i64 o.f2, .int .i64 o.f3, .bool o.f4, .bool o.f5, .pointer none, .pointer none] lpT; rw [World.size_alloc] at this; exact this
  have HB0 : HoldV ((w.alloc (.cells #[.int .i64 o.f0, .int .i64 o.f1, .int .i64 o.f2, .int .i64 o.f3, .bool o.f4, .bool o.f5] 48)).alloc (.cells #[.int .i64 o.f0, .int .i64 o.f1, .int .i64 o.f2, .int .i64 o.f3, .bool o.f4, .bool o.f5, .pointer none, .pointer none] lpT)) w.heap.size #[.int .i64 o.f0, .int .i64 o.f1, .int .i64 o.f2, .int .i64 o.f3, .bool o.f4, .bool o.f5] 48 := (hv_new w _ _).next ((Below.refl _ _).alloc (Nat.le_refl _) _)
  have HL0 := hL0.next hb0
  have HN1 := hv_other HN0 (C := L) (by omega) 3 (.pointer (some ⟨w.heap.size + 1, 0, none⟩))
  have HL1 := hv_set HL0 3 (.pointer (some ⟨w.heap.size + 1, 0, none⟩))
  have C1 := hide (link_walk_ns L (w.heap.size + 1) _ _ _ (HL0.cell 3 _ rfl) (HL0.frozen 3) (HN1.cell 6 _ rfl) (HN1.frozen 6))
  have HN2 := hv_set HN1 6 (.pointer none)
  have HL2 := hv_other HL1 (C := (w.heap.size + 1)) (by omega) 6 (.pointer none)
  have hb1 : Below B w ((((w.alloc (.cells #[.int .i64 o.f0, .int .i64 o.f1, .int .i64 o.f2, .int .i64 o.f3, .bool o.f4, .bool o.f5] 48)).alloc (.cells #[.int .i64 o.f0, .int .i64 o.f1, .int .i64 o.f2, .int .i64 o.f3, .bool o.f4, .bool o.f5, .pointer none, .pointer none] lpT)).setCell ⟨L, 3, none⟩ (.pointer (some ⟨w.heap.size + 1, 0, none⟩))).setCell ⟨w.heap.size + 1, 6, none⟩ (.pointer none)) := ((hb0.mono hB).setCell (p := ⟨L, 3, none⟩) (by show B ≤ L; omega) _).setCell (p := ⟨w.heap.size + 1, 6, none⟩) (by show B ≤ w.heap.size + 1; omega) _
  have hs1 : ((((w.alloc (.cells #[.int .i64 o.f0, .int .i64 o.f1, .int .i64 o.f2, .int .i64 o.f3, .bool o.f4, .bool o.f5] 48)).alloc (.cells #[.int .i64 o.f0, .int .i64 o.f1, .int .i64 o.f2, .int .i64 o.f3, .bool o.f4, .bool o.f5, .pointer none, .pointer none] lpT)).setCell ⟨L, 3, none⟩ (.pointer (some ⟨w.heap.size + 1, 0, none⟩))).setCell ⟨w.heap.size + 1, 6, none⟩ (.pointer none)).heap.size = w.heap.size + 2 := by simp only [World.size_setCell]; exact hs0
  have hk1 : ∀ c, c < w.heap.size → c ≠ L → ((((w.alloc (.cells #[.int .i64 o.f0, .int .i64 o.f1, .int .i64 o.f2, .int .i64 o.f3, .bool o.f4, .bool o.f5] 48)).alloc (.cells #[.int .i64 o.f0, .int .i64 o.f1, .int .i64 o.f2, .int .i64 o.f3, .bool o.f4, .bool o.f5, .pointer none, .pointer none] lpT)).setCell ⟨L, 3, none⟩ (.pointer (some ⟨w.heap.size + 1, 0, none⟩))).setCell ⟨w.heap.size + 1, 6, none⟩ (.pointer none)).heap[c]? = w.heap[c]? := fun c hc h1 => (heap_setCell_other _ _ c _ (show c ≠ w.heap.size + 1 by omega)).trans ((heap_setCell_other _ _ c _ h1).trans (hb0.block c hc))
  obtain ⟨W1, hW1⟩ : ∃ W, W = ((((w.alloc (.cells #[.int .i64 o.f0, .int .i64 o.f1, .int .i64 o.f2, .int .i64 o.f3, .bool o.f4, .bool o.f5] 48)).alloc (.cells #[.int .i64 o.f0, .int .i64 o.f1, .int .i64 o.f2, .int .i64 o.f3, .bool o.f4, .bool o.f5, .pointer none, .pointer none] lpT)).setCell ⟨L, 3, none⟩ (.pointer (some ⟨w.heap.size + 1, 0, none⟩))).setCell ⟨w.heap.size + 1, 6, none⟩ (.pointer none)) := ⟨_, rfl⟩
  rw [← hW1] at C1 hb1 hs1 hk1 HN2 HL2
  clear hW1
  have HN3 := hv_set HN2 7 (.pointer none)
  have HL3 := hv_other HL2 (C := (w.heap.size + 1)) (by omega) 7 (.pointer none)
  have C2 := hide (link_walk_sn L (w.heap.size + 1) _ _ W1 (HN2.cell 7 _ rfl) (HN2.frozen 7) (HL3.cell 4 _ rfl) (HL3.frozen 4))
  have HN4 := hv_other HN3 (C := L) (by omega) 4 (.pointer (some ⟨w.heap.size + 1, 0, none⟩))
  have HL4 := hv_set HL3 4 (.pointer (some ⟨w.heap.size + 1, 0, none⟩))
  have hb2 : Below B w ((W1.setCell ⟨w.heap.size + 1, 7, none⟩ (.pointer none)).setCell ⟨L, 4, none⟩ (.pointer (some ⟨w.heap.size + 1, 0, none⟩))) := (hb1.setCell (p := ⟨w.heap.size + 1, 7, none⟩) (by show B ≤ w.heap.size + 1; omega) _).setCell (p := ⟨L, 4, none⟩) (by show B ≤ L; omega) _
  have hs2 : ((W1.setCell ⟨w.heap.size + 1, 7, none⟩ (.pointer none)).setCell ⟨L, 4, none⟩ (.pointer (some ⟨w.heap.size + 1, 0, none⟩))).heap.size = w.heap.size + 2 := by simp only [World.size_setCell]; exact hs1
  have hk2 : ∀ c, c < w.heap.size → c ≠ L → ((W1.setCell ⟨w.heap.size + 1, 7, none⟩ (.pointer none)).setCell ⟨L, 4, none⟩ (.pointer (some ⟨w.heap.size + 1, 0, none⟩))).heap[c]? = w.heap[c]? := fun c hc nL => (heap_setCell_other _ _ c _ nL).trans ((heap_setCell_other _ _ c _ (show c ≠ w.heap.size + 1 by omega)).trans (hk1 c hc nL))
  obtain ⟨W2, hW2⟩ : ∃ W, W = ((W1.setCell ⟨w.heap.size + 1, 7, none⟩ (.pointer none)).setCell ⟨L, 4, none⟩ (.pointer (some ⟨w.heap.size + 1, 0, none⟩))) := ⟨_, rfl⟩
  rw [← hW2] at C2 hb2 hs2 hk2 HN4 HL4
  clear hW2
  have c2 : W2.cell? ⟨L, 2, none⟩ = some (.int .i64 cn) := by rw [hcn]; exact HL4.cell 2 _ rfl
  have f2 := HL4.frozen 2
  have b0 := HB0.cell 0 _ rfl; have b1 := HB0.cell 1 _ rfl; have b2 := HB0.cell 2 _ rfl; have b3 := HB0.cell 3 _ rfl; have b4 := HB0.cell 4 _ rfl; have b5 := HB0.cell 5 _ rfl
  have HN5 := hv_other HN4 (C := L) (by omega) 2 (.int .i64 (cn + 1))
  have HL5 := hv_set HL4 2 (.int .i64 (cn + 1))
  have hb3 : Below B w (W2.setCell ⟨L, 2, none⟩ (.int .i64 (cn + 1))) := hb2.setCell (p := ⟨L, 2, none⟩) (by show B ≤ L; omega) _
  have hkeep : ∀ c, c < w.heap.size → c ≠ L → (W2.setCell ⟨L, 2, none⟩ (.int .i64 (cn + 1))).heap[c]? = w.heap[c]? := fun c hc nL => (heap_setCell_other _ _ c _ nL).trans (hk2 c hc nL)
  have FIN : Hid (DL (W2.setCell ⟨L, 2, none⟩ (.int .i64 (cn + 1))) B L u x (([] : List (Nat × PieceM)) ++ (w.heap.size + 1, o) :: ([] : List (Nat × PieceM))) ∧ Below B w (W2.setCell ⟨L, 2, none⟩ (.int .i64 (cn + 1))) ∧ (W2.setCell ⟨L, 2, none⟩ (.int .i64 (cn + 1))).heap.size = w.heap.size + 2) := hide (by
    refine ⟨HD.out.insert (by omega) (by omega) ?_ ?_ ?_ ?_, hb3, by rw [World.size_setCell]; exact hs2⟩
    · exact HN5
    · have e := len_int ([] : List (Nat × PieceM)) ([] : List (Nat × PieceM)) (w.heap.size + 1, o)
      have e1 : fstO (([] : List (Nat × PieceM)) ++ (w.heap.size + 1, o) :: ([] : List (Nat × PieceM))) none = some (w.heap.size + 1) := rfl
      have e2 : lstO none (([] : List (Nat × PieceM)) ++ (w.heap.size + 1, o) :: ([] : List (Nat × PieceM))) = some (w.heap.size + 1) := lstO_snoc _ _ _
      unfold plV
      rw [e, ← hcn, e1, e2]
      exact HL5
    · exact trivial
    · exact trivial)
  clear HD h sx sy hkeep hk2 hnd hlt hlo hb0 hb1 hb2 hb3 hs0 hs1 hs2 hL0 HN0 HB0 HL0 lL HN1 HN2 HN3 HN4 HN5 HL1 HL2 HL3 HL4 HL5
  have hcl : ((([] : List (Nat × PieceM)) ++ ([] : List (Nat × PieceM))).length : Int) ≤ 1048576 := by omega
  have hcl0 : 0 ≤ ((([] : List (Nat × PieceM)) ++ ([] : List (Nat × PieceM))).length : Int) := by omega
  rw [← hcn] at hcl hcl0
  clear hcn hl
  go_enter Try.func40, Try.ntmps40
  go_wp2_with fail
  refine C1.out.mono ?_
  rintro e w1 ⟨rfl, rfl⟩
  go_wp2_with fail
  refine C2.out.mono ?_
  rintro e w1 ⟨rfl, rfl⟩
  go_wp2_with fail
  go_end0
  exact ⟨rfl, FIN.out⟩
set_option maxHeartbeats 4000000 in
theorem put_walk_ns (B L : Nat) (u x : Int) (q : Nat) (oq : PieceM) (ys0 : List (Nat × PieceM)) (o : PieceM) (w : World) (h : DL w B L u x (([] : List (Nat × PieceM)) ++ ((q, oq) :: ys0))) (hB : B ≤ w.heap.size) (hl : (([] : List (Nat × PieceM)) ++ ((q, oq) :: ys0)).length ≤ 1048576) :
    Calls Try.prog 40 #[.pointer (some ⟨L, 0, none⟩), .pointer none, pcV o, .pointer (some ⟨q, 0, none⟩)] w fun e w' => e = .returned (.tuple #[]) ∧ DL w' B L u x (([] : List (Nat × PieceM)) ++ (w.heap.size + 1, o) :: ((q, oq) :: ys0)) ∧ Below B w w' ∧ w'.heap.size = w.heap.size + 2 := by
  have HD := hide h
  obtain ⟨cn, hcn⟩ : ∃ cn : Int, cn = ((([] : List (Nat × PieceM)) ++ ((q, oq) :: ys0)).length : Int) := ⟨_, rfl⟩
  have hL0 := h.head
  obtain ⟨sx, sy⟩ := (seg_app ([] : List (Nat × PieceM)) ((q, oq) :: ys0) none none).1 h.seg
  obtain ⟨hq0, sy0⟩ := sy
  have hnd := h.nd
  have hlt := h.lt
  have NQ := nd_mid (b := q) (o := oq) (xs := ([] : List (Nat × PieceM))) (ys := ys0) (L := L) hnd
  have qL := NQ.2.2
  have lq := hlt q (by simp [bks])
  have lL := hlt L (by simp)
  have hlo : B ≤ q ∧ B ≤ L := ⟨h.lo q (by simp [bks]), h.lo L (by simp)⟩
  have hb0 : Below w.heap.size w ((w.alloc (.cells #[.int .i64 o.f0, .int .i64 o.f1, .int .i64 o.f2, .int .i64 o.f3, .bool o.f4, .bool o.f5] 48)).alloc (.cells #[.int .i64 o.f0, .int .i64 o.f1, .int .i64 o.f2, .int .i64 o.f3, .bool o.f4, .bool o.f5, .pointer none, .pointer none] lpT)) := ((Below.refl _ _).alloc (Nat.le_refl _) _).alloc (by simp) _
  have hs0 : ((w.alloc (.cells #[.int .i64 o.f0, .int .i64 o.f1, .int .i64 o.f2, .int .i64 o.f3, .bool o.f4, .bool o.f5] 48)).alloc (.cells #[.int .i64 o.f0, .int .i64 o.f1, .int .i64 o.f2, .int .i64 o.f3, .bool o.f4, .bool o.f5, .pointer none, .pointer none] lpT)).heap.size = w.heap.size + 2 := by rw [World.size_alloc, World.size_alloc]
  have HN0 : HoldV ((w.alloc (.cells #[.int .i64 o.f0, .int .i64 o.f1, .int .i64 o.f2, .int .i64 o.f3, .bool o.f4, .bool o.f5] 48)).alloc (.cells #[.int .i64 o.f0, .int .i64 o.f1, .int .i64 o.f2, .int .i64 o.f3, .bool o.f4, .bool o.f5, .pointer none, .pointer none] lpT)) (w.heap.size + 1) #[.int .i64 o.f0, .int .i64 o.f1, .int .i64 o.f2, .int .i64 o.f3, .bool o.f4, .bool o.f5, .pointer none, .pointer none] lpT := by have := hv_new (w.alloc (.cells #[.int .i64 o.f0, .int .i64 o.f1, .int .i64 o.f2, .int .i64 o.f3, .bool o.f4, .bool o.f5] 48)) #[.int .i64 o.f0, .int .i64 o.f1, .int .i64 o.f2, .int .i64 o.f3, .bool o.f4, .bool o.f5, .pointer none, .pointer none] lpT; rw [World.size_alloc] at this; exact this
  have HB0 : HoldV ((w.alloc (.cells #[.int .i64 o.f0, .int .i64 o.f1, .int .i64 o.f2, .int .i64 o.f3, .bool o.f4, .bool o.f5] 48)).alloc (.cells #[.int .i64 o.f0, .int .i64 o.f1, .int .i64 o.f2, .int .i64 o.f3, .bool o.f4, .bool o.f5, .pointer none, .pointer none] lpT)) w.heap.size #[.int .i64 o.f0, .int .i64 o.f1, .int .i64 o.f2, .int .i64 o.f3, .bool o.f4, .bool o.f5] 48 := (hv_new w _ _).next ((Below.refl _ _).alloc (Nat.le_refl _) _)
  have HL0 := hL0.next hb0
  have HQ0 := hq0.next hb0
  have HN1 := hv_other HN0 (C := L) (by omega) 3 (.pointer (some ⟨w.heap.size + 1, 0, none⟩))
  have HL1 := hv_set HL0 3 (.pointer (some ⟨w.heap.size + 1, 0, none⟩))
  have HQ1 := hv_other HQ0 (C := L) qL 3 (.pointer (some ⟨w.heap.size + 1, 0, none⟩))
  have C1 := hide (link_walk_ns L (w.heap.size + 1) _ _ _ (HL0.cell 3 _ rfl) (HL0.frozen 3) (HN1.cell 6 _ rfl) (HN1.frozen 6))
  have HN2 := hv_set HN1 6 (.pointer none)
  have HL2 := hv_other HL1 (C := (w.heap.size + 1)) (by omega) 6 (.pointer none)
  have HQ2 := hv_other HQ1 (C := (w.heap.size + 1)) (by omega) 6 (.pointer none)
  have hb1 : Below B w ((((w.alloc (.cells #[.int .i64 o.f0, .int .i64 o.f1, .int .i64 o.f2, .int .i64 o.f3, .bool o.f4, .bool o.f5] 48)).alloc (.cells #[.int .i64 o.f0, .int .i64 o.f1, .int .i64 o.f2, .int .i64 o.f3, .bool o.f4, .bool o.f5, .pointer none, .pointer none] lpT)).setCell ⟨L, 3, none⟩ (.pointer (some ⟨w.heap.size + 1, 0, none⟩))).setCell ⟨w.heap.size + 1, 6, none⟩ (.pointer none)) := ((hb0.mono hB).setCell (p := ⟨L, 3, none⟩) (by show B ≤ L; omega) _).setCell (p := ⟨w.heap.size + 1, 6, none⟩) (by show B ≤ w.heap.size + 1; omega) _
  have hs1 : ((((w.alloc (.cells #[.int .i64 o.f0, .int .i64 o.f1, .int .i64 o.f2, .int .i64 o.f3, .bool o.f4, .bool o.f5] 48)).alloc (.cells #[.int .i64 o.f0, .int .i64 o.f1, .int .i64 o.f2, .int .i64 o.f3, .bool o.f4, .bool o.f5, .pointer none, .pointer none] lpT)).setCell ⟨L, 3, none⟩ (.pointer (some ⟨w.heap.size + 1, 0, none⟩))).setCell ⟨w.heap.size + 1, 6, none⟩ (.pointer none)).heap.size = w.heap.size + 2 := by simp only [World.size_setCell]; exact hs0
  have hk1 : ∀ c, c < w.heap.size → c ≠ L → ((((w.alloc (.cells #[.int .i64 o.f0, .int .i64 o.f1, .int .i64 o.f2, .int .i64 o.f3, .bool o.f4, .bool o.f5] 48)).alloc (.cells #[.int .i64 o.f0, .int .i64 o.f1, .int .i64 o.f2, .int .i64 o.f3, .bool o.f4, .bool o.f5, .pointer none, .pointer none] lpT)).setCell ⟨L, 3, none⟩ (.pointer (some ⟨w.heap.size + 1, 0, none⟩))).setCell ⟨w.heap.size + 1, 6, none⟩ (.pointer none)).heap[c]? = w.heap[c]? := fun c hc h1 => (heap_setCell_other _ _ c _ (show c ≠ w.heap.size + 1 by omega)).trans ((heap_setCell_other _ _ c _ h1).trans (hb0.block c hc))
  obtain ⟨W1, hW1⟩ : ∃ W, W = ((((w.alloc (.cells #[.int .i64 o.f0, .int .i64 o.f1, .int .i64 o.f2, .int .i64 o.f3, .bool o.f4, .bool o.f5] 48)).alloc (.cells #[.int .i64 o.f0, .int .i64 o.f1, .int .i64 o.f2, .int .i64 o.f3, .bool o.f4, .bool o.f5, .pointer none, .pointer none] lpT)).setCell ⟨L, 3, none⟩ (.pointer (some ⟨w.heap.size + 1, 0, none⟩))).setCell ⟨w.heap.size + 1, 6, none⟩ (.pointer none)) := ⟨_, rfl⟩
  rw [← hW1] at C1 hb1 hs1 hk1 HN2 HL2 HQ2
  clear hW1
  have HN3 := hv_set HN2 7 (.pointer (some ⟨q, 0, none⟩))
  have HL3 := hv_other HL2 (C := (w.heap.size + 1)) (by omega) 7 (.pointer (some ⟨q, 0, none⟩))
  have HQ3 := hv_other HQ2 (C := (w.heap.size + 1)) (by omega) 7 (.pointer (some ⟨q, 0, none⟩))
  have C2 := hide (link_walk_ss L (w.heap.size + 1) q _ _ W1 (HN2.cell 7 _ rfl) (HN2.frozen 7) (HQ3.cell 6 _ rfl) (HQ3.frozen 6))
  have HN4 := hv_other HN3 (C := q) (by omega) 6 (.pointer (some ⟨w.heap.size + 1, 0, none⟩))
  have HL4 := hv_other HL3 (C := q) (fun e => qL e.symm) 6 (.pointer (some ⟨w.heap.size + 1, 0, none⟩))
  have HQ4 := hv_set HQ3 6 (.pointer (some ⟨w.heap.size + 1, 0, none⟩))
  have hb2 : Below B w ((W1.setCell ⟨w.heap.size + 1, 7, none⟩ (.pointer (some ⟨q, 0, none⟩))).setCell ⟨q, 6, none⟩ (.pointer (some ⟨w.heap.size + 1, 0, none⟩))) := (hb1.setCell (p := ⟨w.heap.size + 1, 7, none⟩) (by show B ≤ w.heap.size + 1; omega) _).setCell (p := ⟨q, 6, none⟩) (by show B ≤ q; omega) _
  have hs2 : ((W1.setCell ⟨w.heap.size + 1, 7, none⟩ (.pointer (some ⟨q, 0, none⟩))).setCell ⟨q, 6, none⟩ (.pointer (some ⟨w.heap.size + 1, 0, none⟩))).heap.size = w.heap.size + 2 := by simp only [World.size_setCell]; exact hs1
  have hk2 : ∀ c, c < w.heap.size → c ≠ L → c ≠ q → ((W1.setCell ⟨w.heap.size + 1, 7, none⟩ (.pointer (some ⟨q, 0, none⟩))).setCell ⟨q, 6, none⟩ (.pointer (some ⟨w.heap.size + 1, 0, none⟩))).heap[c]? = w.heap[c]? := fun c hc nL nq => (heap_setCell_other _ _ c _ nq).trans ((heap_setCell_other _ _ c _ (show c ≠ w.heap.size + 1 by omega)).trans (hk1 c hc nL))
  obtain ⟨W2, hW2⟩ : ∃ W, W = ((W1.setCell ⟨w.heap.size + 1, 7, none⟩ (.pointer (some ⟨q, 0, none⟩))).setCell ⟨q, 6, none⟩ (.pointer (some ⟨w.heap.size + 1, 0, none⟩))) := ⟨_, rfl⟩
  rw [← hW2] at C2 hb2 hs2 hk2 HN4 HL4 HQ4
  clear hW2
  have c2 : W2.cell? ⟨L, 2, none⟩ = some (.int .i64 cn) := by rw [hcn]; exact HL4.cell 2 _ rfl
  have f2 := HL4.frozen 2
  have b0 := HB0.cell 0 _ rfl; have b1 := HB0.cell 1 _ rfl; have b2 := HB0.cell 2 _ rfl; have b3 := HB0.cell 3 _ rfl; have b4 := HB0.cell 4 _ rfl; have b5 := HB0.cell 5 _ rfl
  have HN5 := hv_other HN4 (C := L) (by omega) 2 (.int .i64 (cn + 1))
  have HL5 := hv_set HL4 2 (.int .i64 (cn + 1))
  have HQ5 := hv_other HQ4 (C := L) qL 2 (.int .i64 (cn + 1))
  have hb3 : Below B w (W2.setCell ⟨L, 2, none⟩ (.int .i64 (cn + 1))) := hb2.setCell (p := ⟨L, 2, none⟩) (by show B ≤ L; omega) _
  have hkeep : ∀ c, c < w.heap.size → c ≠ L → c ≠ q → (W2.setCell ⟨L, 2, none⟩ (.int .i64 (cn + 1))).heap[c]? = w.heap[c]? := fun c hc nL nq => (heap_setCell_other _ _ c _ nL).trans (hk2 c hc nL nq)
  have FIN : Hid (DL (W2.setCell ⟨L, 2, none⟩ (.int .i64 (cn + 1))) B L u x (([] : List (Nat × PieceM)) ++ (w.heap.size + 1, o) :: ((q, oq) :: ys0)) ∧ Below B w (W2.setCell ⟨L, 2, none⟩ (.int .i64 (cn + 1))) ∧ (W2.setCell ⟨L, 2, none⟩ (.int .i64 (cn + 1))).heap.size = w.heap.size + 2) := hide (by
    refine ⟨HD.out.insert (by omega) (by omega) ?_ ?_ ?_ ?_, hb3, by rw [World.size_setCell]; exact hs2⟩
    · exact HN5
    · have e := len_int ([] : List (Nat × PieceM)) ((q, oq) :: ys0) (w.heap.size + 1, o)
      have e1 : fstO (([] : List (Nat × PieceM)) ++ (w.heap.size + 1, o) :: ((q, oq) :: ys0)) none = some (w.heap.size + 1) := rfl
      have e2 : lstO none (([] : List (Nat × PieceM)) ++ (w.heap.size + 1, o) :: ((q, oq) :: ys0)) = lstO none (([] : List (Nat × PieceM)) ++ ((q, oq) :: ys0)) := lstO_mid ([] : List (Nat × PieceM)) ys0 _ _ none
      unfold plV
      rw [e, ← hcn, e1, e2]
      exact HL5
    · exact trivial
    · exact ⟨HQ5, sy0.frame (fun c hc => hkeep c (sy0.lt c hc) (fun e => (List.nodup_cons.1 hnd).1 (by rw [← e]; simp only [bks, List.map_append, List.map_cons, List.mem_append, List.mem_cons]; exact .inr (.inr hc))) (fun e => NQ.2.1 (by rw [← e]; exact hc)))⟩)
  clear HD h sx hkeep hk2 hnd hlt hlo hb0 hb1 hb2 hb3 hs0 hs1 hs2 hL0 HN0 HB0 HL0 lL hq0 sy0 NQ qL lq HQ0 HN1 HN2 HN3 HN4 HN5 HL1 HL2 HL3 HL4 HL5 HQ1 HQ2 HQ3 HQ4 HQ5
  have hcl : ((([] : List (Nat × PieceM)) ++ ((q, oq) :: ys0)).length : Int) ≤ 1048576 := by omega
  have hcl0 : 0 ≤ ((([] : List (Nat × PieceM)) ++ ((q, oq) :: ys0)).length : Int) := by omega
  rw [← hcn] at hcl hcl0
  clear hcn hl
  go_enter Try.func40, Try.ntmps40
  go_wp2_with fail
  refine C1.out.mono ?_
  rintro e w1 ⟨rfl, rfl⟩
  go_wp2_with fail
  refine C2.out.mono ?_
  rintro e w1 ⟨rfl, rfl⟩
  go_wp2_with fail
  go_end0
  exact ⟨rfl, FIN.out⟩
set_option maxHeartbeats 4000000 in
theorem put_walk_sn (B L : Nat) (u x : Int) (p : Nat) (op : PieceM) (xs0 : List (Nat × PieceM)) (o : PieceM) (w : World) (h : DL w B L u x ((xs0 ++ [(p, op)]) ++ ([] : List (Nat × PieceM)))) (hB : B ≤ w.heap.size) (hl : ((xs0 ++ [(p, op)]) ++ ([] : List (Nat × PieceM))).length ≤ 1048576) :
    Calls Try.prog 40 #[.pointer (some ⟨L, 0, none⟩), .pointer (some ⟨p, 0, none⟩), pcV o, .pointer none] w fun e w' => e = .returned (.tuple #[]) ∧ DL w' B L u x ((xs0 ++ [(p, op)]) ++ (w.heap.size + 1, o) :: ([] : List (Nat × PieceM))) ∧ Below B w w' ∧ w'.heap.size = w.heap.size + 2 := by
  have HD := hide h
  obtain ⟨cn, hcn⟩ : ∃ cn : Int, cn = (((xs0 ++ [(p, op)]) ++ ([] : List (Nat × PieceM))).length : Int) := ⟨_, rfl⟩
  have hL0 := h.head
  obtain ⟨sx, sy⟩ := (seg_app (xs0 ++ [(p, op)]) ([] : List (Nat × PieceM)) none none).1 h.seg
  obtain ⟨sx0, hp0, _⟩ := (seg_app xs0 [(p, op)] none _).1 sx
  have hnd := h.nd
  have hlt := h.lt
  have NP := nd_mid (b := p) (o := op) (xs := xs0) (ys := ([] : List (Nat × PieceM))) (L := L) (by simpa [List.append_assoc] using hnd)
  have pL := NP.2.2
  have lp := hlt p (by simp [bks])
  have lL := hlt L (by simp)
  have hlo : B ≤ p ∧ B ≤ L := ⟨h.lo p (by simp [bks]), h.lo L (by simp)⟩
  have hb0 : Below w.heap.size w ((w.alloc (.cells #[.int .i64 o.f0, .int .i64 o.f1, .int .i64 o.f2, .int .i64 o.f3, .bool o.f4, .bool o.f5] 48)).alloc (.cells #[.int .i64 o.f0, .int .i64 o.f1, .int .i64 o.f2, .int .i64 o.f3, .bool o.f4, .bool o.f5, .pointer none, .pointer none] lpT)) := ((Below.refl _ _).alloc (Nat.le_refl _) _).alloc (by simp) _
  have hs0 : ((w.alloc (.cells #[.int .i64 o.f0, .int .i64 o.f1, .int .i64 o.f2, .int .i64 o.f3, .bool o.f4, .bool o.f5] 48)).alloc (.cells #[.int .i64 o.f0, .int .i64 o.f1, .int .i64 o.f2, .int .i64 o.f3, .bool o.f4, .bool o.f5, .pointer none, .pointer none] lpT)).heap.size = w.heap.size + 2 := by rw [World.size_alloc, World.size_alloc]
  have HN0 : HoldV ((w.alloc (.cells #[.int .i64 o.f0, .int .i64 o.f1, .int .i64 o.f2, .int .i64 o.f3, .bool o.f4, .bool o.f5] 48)).alloc (.cells #[.int .i64 o.f0, .int .i64 o.f1, .int .i64 o.f2, .int .i64 o.f3, .bool o.f4, .bool o.f5, .pointer none, .pointer none] lpT)) (w.heap.size + 1) #[.int .i64 o.f0, .int .i64 o.f1, .int .i64 o.f2, .int .i64 o.f3, .bool o.f4, .bool o.f5, .pointer none, .pointer none] lpT := by have := hv_new (w.alloc (.cells #[.int .i64 o.f0, .int .i64 o.f1, .int .i64 o.f2, .int .i64 o.f3, .bool o.f4, .bool o.f5] 48)) #[.int .i64 o.f0, .int .i64 o.f1, .int .i64 o.f2, .int .i64 o.f3, .bool o.f4, .bool o.f5, .pointer none, .pointer none] lpT; rw [World.size_alloc] at this; exact this
  have HB0 : HoldV ((w.alloc (.cells #[.int .i64 o.f0, .int .i64 o.f1, .int .i64 o.f2, .int .i64 o.f3, .bool o.f4, .bool o.f5] 48)).alloc (.cells #[.int .i64 o.f0, .int .i64 o.f1, .int .i64 o.f2, .int .i64 o.f3, .bool o.f4, .bool o.f5, .pointer none, .pointer none] lpT)) w.heap.size #[.int .i64 o.f0, .int .i64 o.f1, .int .i64 o.f2, .int .i64 o.f3, .bool o.f4, .bool o.f5] 48 := (hv_new w _ _).next ((Below.refl _ _).alloc (Nat.le_refl _) _)
  have HL0 := hL0.next hb0
  have HP0 := hp0.next hb0
  have HN1 := hv_other HN0 (C := p) (by omega) 7 (.pointer (some ⟨w.heap.size + 1, 0, none⟩))
  have HL1 := hv_other HL0 (C := p) (fun e => pL e.symm) 7 (.pointer (some ⟨w.heap.size + 1, 0, none⟩))
  have HP1 := hv_set HP0 7 (.pointer (some ⟨w.heap.size + 1, 0, none⟩))
  have C1 := hide (link_walk_ss L p (w.heap.size + 1) _ _ _ (HP0.cell 7 _ rfl) (HP0.frozen 7) (HN1.cell 6 _ rfl) (HN1.frozen 6))
  have HN2 := hv_set HN1 6 (.pointer (some ⟨p, 0, none⟩))
  have HL2 := hv_other HL1 (C := (w.heap.size + 1)) (by omega) 6 (.pointer (some ⟨p, 0, none⟩))
  have HP2 := hv_other HP1 (C := (w.heap.size + 1)) (by omega) 6 (.pointer (some ⟨p, 0, none⟩))
  have hb1 : Below B w ((((w.alloc (.cells #[.int .i64 o.f0, .int .i64 o.f1, .int .i64 o.f2, .int .i64 o.f3, .bool o.f4, .bool o.f5] 48)).alloc (.cells #[.int .i64 o.f0, .int .i64 o.f1, .int .i64 o.f2, .int .i64 o.f3, .bool o.f4, .bool o.f5, .pointer none, .pointer none] lpT)).setCell ⟨p, 7, none⟩ (.pointer (some ⟨w.heap.size + 1, 0, none⟩))).setCell ⟨w.heap.size + 1, 6, none⟩ (.pointer (some ⟨p, 0, none⟩))) := ((hb0.mono hB).setCell (p := ⟨p, 7, none⟩) (by show B ≤ p; omega) _).setCell (p := ⟨w.heap.size + 1, 6, none⟩) (by show B ≤ w.heap.size + 1; omega) _
  have hs1 : ((((w.alloc (.cells #[.int .i64 o.f0, .int .i64 o.f1, .int .i64 o.f2, .int .i64 o.f3, .bool o.f4, .bool o.f5] 48)).alloc (.cells #[.int .i64 o.f0, .int .i64 o.f1, .int .i64 o.f2, .int .i64 o.f3, .bool o.f4, .bool o.f5, .pointer none, .pointer none] lpT)).setCell ⟨p, 7, none⟩ (.pointer (some ⟨w.heap.size + 1, 0, none⟩))).setCell ⟨w.heap.size + 1, 6, none⟩ (.pointer (some ⟨p, 0, none⟩))).heap.size = w.heap.size + 2 := by simp only [World.size_setCell]; exact hs0
  have hk1 : ∀ c, c < w.heap.size → c ≠ p → ((((w.alloc (.cells #[.int .i64 o.f0, .int .i64 o.f1, .int .i64 o.f2, .int .i64 o.f3, .bool o.f4, .bool o.f5] 48)).alloc (.cells #[.int .i64 o.f0, .int .i64 o.f1, .int .i64 o.f2, .int .i64 o.f3, .bool o.f4, .bool o.f5, .pointer none, .pointer none] lpT)).setCell ⟨p, 7, none⟩ (.pointer (some ⟨w.heap.size + 1, 0, none⟩))).setCell ⟨w.heap.size + 1, 6, none⟩ (.pointer (some ⟨p, 0, none⟩))).heap[c]? = w.heap[c]? := fun c hc h1 => (heap_setCell_other _ _ c _ (show c ≠ w.heap.size + 1 by omega)).trans ((heap_setCell_other _ _ c _ h1).trans (hb0.block c hc))
  obtain ⟨W1, hW1⟩ : ∃ W, W = ((((w.alloc (.cells #[.int .i64 o.f0, .int .i64 o.f1, .int .i64 o.f2, .int .i64 o.f3, .bool o.f4, .bool o.f5] 48)).alloc (.cells #[.int .i64 o.f0, .int .i64 o.f1, .int .i64 o.f2, .int .i64 o.f3, .bool o.f4, .bool o.f5, .pointer none, .pointer none] lpT)).setCell ⟨p, 7, none⟩ (.pointer (some ⟨w.heap.size + 1, 0, none⟩))).setCell ⟨w.heap.size + 1, 6, none⟩ (.pointer (some ⟨p, 0, none⟩))) := ⟨_, rfl⟩
  rw [← hW1] at C1 hb1 hs1 hk1 HN2 HL2 HP2
  clear hW1
  have HN3 := hv_set HN2 7 (.pointer none)
  have HL3 := hv_other HL2 (C := (w.heap.size + 1)) (by omega) 7 (.pointer none)
  have HP3 := hv_other HP2 (C := (w.heap.size + 1)) (by omega) 7 (.pointer none)
  have C2 := hide (link_walk_sn L (w.heap.size + 1) _ _ W1 (HN2.cell 7 _ rfl) (HN2.frozen 7) (HL3.cell 4 _ rfl) (HL3.frozen 4))
  have HN4 := hv_other HN3 (C := L) (by omega) 4 (.pointer (some ⟨w.heap.size + 1, 0, none⟩))
  have HL4 := hv_set HL3 4 (.pointer (some ⟨w.heap.size + 1, 0, none⟩))
  have HP4 := hv_other HP3 (C := L) pL 4 (.pointer (some ⟨w.heap.size + 1, 0, none⟩))
  have hb2 : Below B w ((W1.setCell ⟨w.heap.size + 1, 7, none⟩ (.pointer none)).setCell ⟨L, 4, none⟩ (.pointer (some ⟨w.heap.size + 1, 0, none⟩))) := (hb1.setCell (p := ⟨w.heap.size + 1, 7, none⟩) (by show B ≤ w.heap.size + 1; omega) _).setCell (p := ⟨L, 4, none⟩) (by show B ≤ L; omega) _
  have hs2 : ((W1.setCell ⟨w.heap.size + 1, 7, none⟩ (.pointer none)).setCell ⟨L, 4, none⟩ (.pointer (some ⟨w.heap.size + 1, 0, none⟩))).heap.size = w.heap.size + 2 := by simp only [World.size_setCell]; exact hs1
  have hk2 : ∀ c, c < w.heap.size → c ≠ L → c ≠ p → ((W1.setCell ⟨w.heap.size + 1, 7, none⟩ (.pointer none)).setCell ⟨L, 4, none⟩ (.pointer (some ⟨w.heap.size + 1, 0, none⟩))).heap[c]? = w.heap[c]? := fun c hc nL np => (heap_setCell_other _ _ c _ nL).trans ((heap_setCell_other _ _ c _ (show c ≠ w.heap.size + 1 by omega)).trans (hk1 c hc np))
  obtain ⟨W2, hW2⟩ : ∃ W, W = ((W1.setCell ⟨w.heap.size + 1, 7, none⟩ (.pointer none)).setCell ⟨L, 4, none⟩ (.pointer (some ⟨w.heap.size + 1, 0, none⟩))) := ⟨_, rfl⟩
  rw [← hW2] at C2 hb2 hs2 hk2 HN4 HL4 HP4
  clear hW2
  have c2 : W2.cell? ⟨L, 2, none⟩ = some (.int .i64 cn) := by rw [hcn]; exact HL4.cell 2 _ rfl
  have f2 := HL4.frozen 2
  have b0 := HB0.cell 0 _ rfl; have b1 := HB0.cell 1 _ rfl; have b2 := HB0.cell 2 _ rfl; have b3 := HB0.cell 3 _ rfl; have b4 := HB0.cell 4 _ rfl; have b5 := HB0.cell 5 _ rfl
  have HN5 := hv_other HN4 (C := L) (by omega) 2 (.int .i64 (cn + 1))
  have HL5 := hv_set HL4 2 (.int .i64 (cn + 1))
  have HP5 := hv_other HP4 (C := L) pL 2 (.int .i64 (cn + 1))
  have hb3 : Below B w (W2.setCell ⟨L, 2, none⟩ (.int .i64 (cn + 1))) := hb2.setCell (p := ⟨L, 2, none⟩) (by show B ≤ L; omega) _
  have hkeep : ∀ c, c < w.heap.size → c ≠ L → c ≠ p → (W2.setCell ⟨L, 2, none⟩ (.int .i64 (cn + 1))).heap[c]? = w.heap[c]? := fun c hc nL np => (heap_setCell_other _ _ c _ nL).trans (hk2 c hc nL np)
  have FIN : Hid (DL (W2.setCell ⟨L, 2, none⟩ (.int .i64 (cn + 1))) B L u x ((xs0 ++ [(p, op)]) ++ (w.heap.size + 1, o) :: ([] : List (Nat × PieceM))) ∧ Below B w (W2.setCell ⟨L, 2, none⟩ (.int .i64 (cn + 1))) ∧ (W2.setCell ⟨L, 2, none⟩ (.int .i64 (cn + 1))).heap.size = w.heap.size + 2) := hide (by
    refine ⟨HD.out.insert (by omega) (by omega) ?_ ?_ ?_ ?_, hb3, by rw [World.size_setCell]; exact hs2⟩
    · rw [lstO_snoc]; exact HN5
    · have e := len_int (xs0 ++ [(p, op)]) ([] : List (Nat × PieceM)) (w.heap.size + 1, o)
      have e1 : fstO ((xs0 ++ [(p, op)]) ++ (w.heap.size + 1, o) :: ([] : List (Nat × PieceM))) none = fstO ((xs0 ++ [(p, op)]) ++ ([] : List (Nat × PieceM))) none := by rw [fstO_app, fstO_app, fstO_app, fstO_app]; rfl
      have e2 : lstO none ((xs0 ++ [(p, op)]) ++ (w.heap.size + 1, o) :: ([] : List (Nat × PieceM))) = some (w.heap.size + 1) := lstO_snoc _ _ _
      unfold plV
      rw [e, ← hcn, e1, e2]
      exact HL5
    · exact (seg_app xs0 [(p, op)] none _).2 ⟨sx0.frame (fun c hc => hkeep c (sx0.lt c hc) (fun e => (List.nodup_cons.1 hnd).1 (by rw [← e]; simp only [bks, List.map_append, List.mem_append]; exact .inl (.inl hc))) (fun e => NP.1 (by rw [← e]; exact hc))), HP5, trivial⟩
    · exact trivial)
  clear HD h sx sy hkeep hk2 hnd hlt hlo hb0 hb1 hb2 hb3 hs0 hs1 hs2 hL0 HN0 HB0 HL0 lL sx0 hp0 NP pL lp HP0 HN1 HN2 HN3 HN4 HN5 HL1 HL2 HL3 HL4 HL5 HP1 HP2 HP3 HP4 HP5
  have hcl : (((xs0 ++ [(p, op)]) ++ ([] : List (Nat × PieceM))).length : Int) ≤ 1048576 := by omega
  have hcl0 : 0 ≤ (((xs0 ++ [(p, op)]) ++ ([] : List (Nat × PieceM))).length : Int) := by omega
  rw [← hcn] at hcl hcl0
  clear hcn hl
  go_enter Try.func40, Try.ntmps40
  go_wp2_with fail
  refine C1.out.mono ?_
  rintro e w1 ⟨rfl, rfl⟩
  go_wp2_with fail
  refine C2.out.mono ?_
  rintro e w1 ⟨rfl, rfl⟩
  go_wp2_with fail
  go_end0
  exact ⟨rfl, FIN.out⟩
set_option maxHeartbeats 4000000 in
theorem put_walk_ss (B L : Nat) (u x : Int) (p : Nat) (op : PieceM) (xs0 : List (Nat × PieceM)) (q : Nat) (oq : PieceM) (ys0 : List (Nat × PieceM)) (o : PieceM) (w : World) (h : DL w B L u x ((xs0 ++ [(p, op)]) ++ ((q, oq) :: ys0))) (hB : B ≤ w.heap.size) (hl : ((xs0 ++ [(p, op)]) ++ ((q, oq) :: ys0)).length ≤ 1048576) :
    Calls Try.prog 40 #[.pointer (some ⟨L, 0, none⟩), .pointer (some ⟨p, 0, none⟩), pcV o, .pointer (some ⟨q, 0, none⟩)] w fun e w' => e = .returned (.tuple #[]) ∧ DL w' B L u x ((xs0 ++ [(p, op)]) ++ (w.heap.size + 1, o) :: ((q, oq) :: ys0)) ∧ Below B w w' ∧ w'.heap.size = w.heap.size + 2 := by
  have HD := hide h
  obtain ⟨cn, hcn⟩ : ∃ cn : Int, cn = (((xs0 ++ [(p, op)]) ++ ((q, oq) :: ys0)).length : Int) := ⟨_, rfl⟩
  have hL0 := h.head
  obtain ⟨sx, sy⟩ := (seg_app (xs0 ++ [(p, op)]) ((q, oq) :: ys0) none none).1 h.seg
  obtain ⟨sx0, hp0, _⟩ := (seg_app xs0 [(p, op)] none _).1 sx
  obtain ⟨hq0, sy0⟩ := sy
  have hnd := h.nd
  have hlt := h.lt
  have NP := nd_mid (b := p) (o := op) (xs := xs0) (ys := ((q, oq) :: ys0)) (L := L) (by simpa [List.append_assoc] using hnd)
  have pL := NP.2.2
  have NQ := nd_mid (b := q) (o := oq) (xs := (xs0 ++ [(p, op)])) (ys := ys0) (L := L) hnd
  have qL := NQ.2.2
  have pq : p ≠ q := fun e => NP.2.1 (by rw [e]; exact List.mem_cons_self)
  have lp := hlt p (by simp [bks])
  have lq := hlt q (by simp [bks])
  have lL := hlt L (by simp)
  have hlo : B ≤ p ∧ B ≤ q ∧ B ≤ L := ⟨h.lo p (by simp [bks]), h.lo q (by simp [bks]), h.lo L (by simp)⟩
  have hb0 : Below w.heap.size w ((w.alloc (.cells #[.int .i64 o.f0, .int .i64 o.f1, .int .i64 o.f2, .int .i64 o.f3, .bool o.f4, .bool o.f5] 48)).alloc (.cells #[.int .i64 o.f0, .int .i64 o.f1, .int .i64 o.f2, .int .i64 o.f3, .bool o.f4, .bool o.f5, .pointer none, .pointer none] lpT)) := ((Below.refl _ _).alloc (Nat.le_refl _) _).alloc (by simp) _
  have hs0 : ((w.alloc (.cells #[.int .i64 o.f0, .int .i64 o.f1, .int .i64 o.f2, .int .i64 o.f3, .bool o.f4, .bool o.f5] 48)).alloc (.cells #[.int .i64 o.f0, .int .i64 o.f1, .int .i64 o.f2, .int .i64 o.f3, .bool o.f4, .bool o.f5, .pointer none, .pointer none] lpT)).heap.size = w.heap.size + 2 := by rw [World.size_alloc, World.size_alloc]
  have HN0 : HoldV ((w.alloc (.cells #[.int .i64 o.f0, .int .i64 o.f1, .int .i64 o.f2, .int .i64 o.f3, .bool o.f4, .bool o.f5] 48)).alloc (.cells #[.int .i64 o.f0, .int .i64 o.f1, .int .i64 o.f2, .int .i64 o.f3, .bool o.f4, .bool o.f5, .pointer none, .pointer none] lpT)) (w.heap.size + 1) #[.int .i64 o.f0, .int .i64 o.f1, .int .i64 o.f2, .int .i64 o.f3, .bool o.f4, .bool o.f5, .pointer none, .pointer none] lpT := by have := hv_new (w.alloc (.cells #[.int .i64 o.f0, .int .i64 o.f1, .int .i64 o.f2, .int .i64 o.f3, .bool o.f4, .bool o.f5] 48)) #[.int .i64 o.f0, .int .i64 o.f1, .int .i64 o.f2, .int .i64 o.f3, .bool o.f4, .bool o.f5, .pointer none, .pointer none] lpT; rw [World.size_alloc] at this; exact this
  have HB0 : HoldV ((w.alloc (.cells #[.int .i64 o.f0, .int .i64 o.f1, .int .i64 o.f2, .int .i64 o.f3, .bool o.f4, .bool o.f5] 48)).alloc (.cells #[.int .i64 o.f0, .int .i64 o.f1, .int .i64 o.f2, .int .i64 o.f3, .bool o.f4, .bool o.f5, .pointer none, .pointer none] lpT)) w.heap.size #[.int .i64 o.f0, .int .i64 o.f1, .int .i64 o.f2, .int .i64 o.f3, .bool o.f4, .bool o.f5] 48 := (hv_new w _ _).next ((Below.refl _ _).alloc (Nat.le_refl _) _)
  have HL0 := hL0.next hb0
  have HP0 := hp0.next hb0
  have HQ0 := hq0.next hb0
  have HN1 := hv_other HN0 (C := p) (by omega) 7 (.pointer (some ⟨w.heap.size + 1, 0, none⟩))
  have HL1 := hv_other HL0 (C := p) (fun e => pL e.symm) 7 (.pointer (some ⟨w.heap.size + 1, 0, none⟩))
  have HP1 := hv_set HP0 7 (.pointer (some ⟨w.heap.size + 1, 0, none⟩))
  have HQ1 := hv_other HQ0 (C := p) (fun e => pq e.symm) 7 (.pointer (some ⟨w.heap.size + 1, 0, none⟩))
  have C1 := hide (link_walk_ss L p (w.heap.size + 1) _ _ _ (HP0.cell 7 _ rfl) (HP0.frozen 7) (HN1.cell 6 _ rfl) (HN1.frozen 6))
  have HN2 := hv_set HN1 6 (.pointer (some ⟨p, 0, none⟩))
  have HL2 := hv_other HL1 (C := (w.heap.size + 1)) (by omega) 6 (.pointer (some ⟨p, 0, none⟩))
  have HP2 := hv_other HP1 (C := (w.heap.size + 1)) (by omega) 6 (.pointer (some ⟨p, 0, none⟩))
  have HQ2 := hv_other HQ1 (C := (w.heap.size + 1)) (by omega) 6 (.pointer (some ⟨p, 0, none⟩))
  have hb1 : Below B w ((((w.alloc (.cells #[.int .i64 o.f0, .int .i64 o.f1, .int .i64 o.f2, .int .i64 o.f3, .bool o.f4, .bool o.f5] 48)).alloc (.cells #[.int .i64 o.f0, .int .i64 o.f1, .int .i64 o.f2, .int .i64 o.f3, .bool o.f4, .bool o.f5, .pointer none, .pointer none] lpT)).setCell ⟨p, 7, none⟩ (.pointer (some ⟨w.heap.size + 1, 0, none⟩))).setCell ⟨w.heap.size + 1, 6, none⟩ (.pointer (some ⟨p, 0, none⟩))) := ((hb0.mono hB).setCell (p := ⟨p, 7, none⟩) (by show B ≤ p; omega) _).setCell (p := ⟨w.heap.size + 1, 6, none⟩) (by show B ≤ w.heap.size + 1; omega) _
  have hs1 : ((((w.alloc (.cells #[.int .i64 o.f0, .int .i64 o.f1, .int .i64 o.f2, .int .i64 o.f3, .bool o.f4, .bool o.f5] 48)).alloc (.cells #[.int .i64 o.f0, .int .i64 o.f1, .int .i64 o.f2, .int .i64 o.f3, .bool o.f4, .bool o.f5, .pointer none, .pointer none] lpT)).setCell ⟨p, 7, none⟩ (.pointer (some ⟨w.heap.size + 1, 0, none⟩))).setCell ⟨w.heap.size + 1, 6, none⟩ (.pointer (some ⟨p, 0, none⟩))).heap.size = w.heap.size + 2 := by simp only [World.size_setCell]; exact hs0
  have hk1 : ∀ c, c < w.heap.size → c ≠ p → ((((w.alloc (.cells #[.int .i64 o.f0, .int .i64 o.f1, .int .i64 o.f2, .int .i64 o.f3, .bool o.f4, .bool o.f5] 48)).alloc (.cells #[.int .i64 o.f0, .int .i64 o.f1, .int .i64 o.f2, .int .i64 o.f3, .bool o.f4, .bool o.f5, .pointer none, .pointer none] lpT)).setCell ⟨p, 7, none⟩ (.pointer (some ⟨w.heap.size + 1, 0, none⟩))).setCell ⟨w.heap.size + 1, 6, none⟩ (.pointer (some ⟨p, 0, none⟩))).heap[c]? = w.heap[c]? := fun c hc h1 => (heap_setCell_other _ _ c _ (show c ≠ w.heap.size + 1 by omega)).trans ((heap_setCell_other _ _ c _ h1).trans (hb0.block c hc))
  obtain ⟨W1, hW1⟩ : ∃ W, W = ((((w.alloc (.cells #[.int .i64 o.f0, .int .i64 o.f1, .int .i64 o.f2, .int .i64 o.f3, .bool o.f4, .bool o.f5] 48)).alloc (.cells #[.int .i64 o.f0, .int .i64 o.f1, .int .i64 o.f2, .int .i64 o.f3, .bool o.f4, .bool o.f5, .pointer none, .pointer none] lpT)).setCell ⟨p, 7, none⟩ (.pointer (some ⟨w.heap.size + 1, 0, none⟩))).setCell ⟨w.heap.size + 1, 6, none⟩ (.pointer (some ⟨p, 0, none⟩))) := ⟨_, rfl⟩
  rw [← hW1] at C1 hb1 hs1 hk1 HN2 HL2 HP2 HQ2
  clear hW1
  have HN3 := hv_set HN2 7 (.pointer (some ⟨q, 0, none⟩))
  have HL3 := hv_other HL2 (C := (w.heap.size + 1)) (by omega) 7 (.pointer (some ⟨q, 0, none⟩))
  have HP3 := hv_other HP2 (C := (w.heap.size + 1)) (by omega) 7 (.pointer (some ⟨q, 0, none⟩))
  have HQ3 := hv_other HQ2 (C := (w.heap.size + 1)) (by omega) 7 (.pointer (some ⟨q, 0, none⟩))
  have C2 := hide (link_walk_ss L (w.heap.size + 1) q _ _ W1 (HN2.cell 7 _ rfl) (HN2.frozen 7) (HQ3.cell 6 _ rfl) (HQ3.frozen 6))
  have HN4 := hv_other HN3 (C := q) (by omega) 6 (.pointer (some ⟨w.heap.size + 1, 0, none⟩))
  have HL4 := hv_other HL3 (C := q) (fun e => qL e.symm) 6 (.pointer (some ⟨w.heap.size + 1, 0, none⟩))
  have HP4 := hv_other HP3 (C := q) pq 6 (.pointer (some ⟨w.heap.size + 1, 0, none⟩))
  have HQ4 := hv_set HQ3 6 (.pointer (some ⟨w.heap.size + 1, 0, none⟩))
  have hb2 : Below B w ((W1.setCell ⟨w.heap.size + 1, 7, none⟩ (.pointer (some ⟨q, 0, none⟩))).setCell ⟨q, 6, none⟩ (.pointer (some ⟨w.heap.size + 1, 0, none⟩))) := (hb1.setCell (p := ⟨w.heap.size + 1, 7, none⟩) (by show B ≤ w.heap.size + 1; omega) _).setCell (p := ⟨q, 6, none⟩) (by show B ≤ q; omega) _
  have hs2 : ((W1.setCell ⟨w.heap.size + 1, 7, none⟩ (.pointer (some ⟨q, 0, none⟩))).setCell ⟨q, 6, none⟩ (.pointer (some ⟨w.heap.size + 1, 0, none⟩))).heap.size = w.heap.size + 2 := by simp only [World.size_setCell]; exact hs1
  have hk2 : ∀ c, c < w.heap.size → c ≠ L → c ≠ p → c ≠ q → ((W1.setCell ⟨w.heap.size + 1, 7, none⟩ (.pointer (some ⟨q, 0, none⟩))).setCell ⟨q, 6, none⟩ (.pointer (some ⟨w.heap.size + 1, 0, none⟩))).heap[c]? = w.heap[c]? := fun c hc nL np nq => (heap_setCell_other _ _ c _ nq).trans ((heap_setCell_other _ _ c _ (show c ≠ w.heap.size + 1 by omega)).trans (hk1 c hc np))
  obtain ⟨W2, hW2⟩ : ∃ W, W = ((W1.setCell ⟨w.heap.size + 1, 7, none⟩ (.pointer (some ⟨q, 0, none⟩))).setCell ⟨q, 6, none⟩ (.pointer (some ⟨w.heap.size + 1, 0, none⟩))) := ⟨_, rfl⟩
  rw [← hW2] at C2 hb2 hs2 hk2 HN4 HL4 HP4 HQ4
  clear hW2
  have c2 : W2.cell? ⟨L, 2, none⟩ = some (.int .i64 cn) := by rw [hcn]; exact HL4.cell 2 _ rfl
  have f2 := HL4.frozen 2
  have b0 := HB0.cell 0 _ rfl; have b1 := HB0.cell 1 _ rfl; have b2 := HB0.cell 2 _ rfl; have b3 := HB0.cell 3 _ rfl; have b4 := HB0.cell 4 _ rfl; have b5 := HB0.cell 5 _ rfl
  have HN5 := hv_other HN4 (C := L) (by omega) 2 (.int .i64 (cn + 1))
  have HL5 := hv_set HL4 2 (.int .i64 (cn + 1))
  have HP5 := hv_other HP4 (C := L) pL 2 (.int .i64 (cn + 1))
  have HQ5 := hv_other HQ4 (C := L) qL 2 (.int .i64 (cn + 1))
  have hb3 : Below B w (W2.setCell ⟨L, 2, none⟩ (.int .i64 (cn + 1))) := hb2.setCell (p := ⟨L, 2, none⟩) (by show B ≤ L; omega) _
  have hkeep : ∀ c, c < w.heap.size → c ≠ L → c ≠ p → c ≠ q → (W2.setCell ⟨L, 2, none⟩ (.int .i64 (cn + 1))).heap[c]? = w.heap[c]? := fun c hc nL np nq => (heap_setCell_other _ _ c _ nL).trans (hk2 c hc nL np nq)
  have FIN : Hid (DL (W2.setCell ⟨L, 2, none⟩ (.int .i64 (cn + 1))) B L u x ((xs0 ++ [(p, op)]) ++ (w.heap.size + 1, o) :: ((q, oq) :: ys0)) ∧ Below B w (W2.setCell ⟨L, 2, none⟩ (.int .i64 (cn + 1))) ∧ (W2.setCell ⟨L, 2, none⟩ (.int .i64 (cn + 1))).heap.size = w.heap.size + 2) := hide (by
    refine ⟨HD.out.insert (by omega) (by omega) ?_ ?_ ?_ ?_, hb3, by rw [World.size_setCell]; exact hs2⟩
    · rw [lstO_snoc]; exact HN5
    · have e := len_int (xs0 ++ [(p, op)]) ((q, oq) :: ys0) (w.heap.size + 1, o)
      have e1 : fstO ((xs0 ++ [(p, op)]) ++ (w.heap.size + 1, o) :: ((q, oq) :: ys0)) none = fstO ((xs0 ++ [(p, op)]) ++ ((q, oq) :: ys0)) none := by rw [fstO_app, fstO_app, fstO_app, fstO_app]; rfl
      have e2 : lstO none ((xs0 ++ [(p, op)]) ++ (w.heap.size + 1, o) :: ((q, oq) :: ys0)) = lstO none ((xs0 ++ [(p, op)]) ++ ((q, oq) :: ys0)) := lstO_mid (xs0 ++ [(p, op)]) ys0 _ _ none
      unfold plV
      rw [e, ← hcn, e1, e2]
      exact HL5
    · exact (seg_app xs0 [(p, op)] none _).2 ⟨sx0.frame (fun c hc => hkeep c (sx0.lt c hc) (fun e => (List.nodup_cons.1 hnd).1 (by rw [← e]; simp only [bks, List.map_append, List.mem_append]; exact .inl (.inl hc))) (fun e => NP.1 (by rw [← e]; exact hc)) (fun e => NQ.1 (by rw [← e]; simp only [bks, List.map_append, List.mem_append]; exact .inl hc))), HP5, trivial⟩
    · exact ⟨HQ5, sy0.frame (fun c hc => hkeep c (sy0.lt c hc) (fun e => (List.nodup_cons.1 hnd).1 (by rw [← e]; simp only [bks, List.map_append, List.map_cons, List.mem_append, List.mem_cons]; exact .inr (.inr hc))) (fun e => NP.2.1 (by rw [← e]; exact List.mem_cons_of_mem _ hc)) (fun e => NQ.2.1 (by rw [← e]; exact hc)))⟩)
  clear HD h sx hkeep hk2 hnd hlt hlo hb0 hb1 hb2 hb3 hs0 hs1 hs2 hL0 HN0 HB0 HL0 lL sx0 hp0 NP pL lp HP0 hq0 sy0 NQ qL lq HQ0 pq HN1 HN2 HN3 HN4 HN5 HL1 HL2 HL3 HL4 HL5 HP1 HP2 HP3 HP4 HP5 HQ1 HQ2 HQ3 HQ4 HQ5
  have hcl : (((xs0 ++ [(p, op)]) ++ ((q, oq) :: ys0)).length : Int) ≤ 1048576 := by omega
  have hcl0 : 0 ≤ (((xs0 ++ [(p, op)]) ++ ((q, oq) :: ys0)).length : Int) := by omega
  rw [← hcn] at hcl hcl0
  clear hcn hl
  go_enter Try.func40, Try.ntmps40
  go_wp2_with fail
  refine C1.out.mono ?_
  rintro e w1 ⟨rfl, rfl⟩
  go_wp2_with fail
  refine C2.out.mono ?_
  rintro e w1 ⟨rfl, rfl⟩
  go_wp2_with fail
  go_end0
  exact ⟨rfl, FIN.out⟩
/-- A new piece is put between two parts of a list. -/
theorem put_walk (B L : Nat) (u x : Int) (xs ys : List (Nat × PieceM)) (o : PieceM) (w : World) (h : DL w B L u x (xs ++ ys)) (hB : B ≤ w.heap.size) (hl : (xs ++ ys).length ≤ 1048576) :
    Calls Try.prog 40 #[.pointer (some ⟨L, 0, none⟩), ptO (lstO none xs), pcV o, ptO (fstO ys none)] w fun e w' => e = .returned (.tuple #[]) ∧ DL w' B L u x (xs ++ (w.heap.size + 1, o) :: ys) ∧ Below B w w' ∧ w'.heap.size = w.heap.size + 2 := by
  rcases List.eq_nil_or_concat xs with rfl | ⟨xs0, ⟨p, op⟩, rfl⟩
  · cases ys with
    | nil => exact put_walk_nn B L u x o w h hB hl
    | cons q ys0 => exact put_walk_ns B L u x q.1 q.2 ys0 o w h hB hl
  · rw [List.concat_eq_append] at h hl ⊢
    rw [lstO_snoc]
    cases ys with
    | nil => exact put_walk_sn B L u x p op xs0 o w h hB hl
    | cons q ys0 => exact put_walk_ss B L u x p op xs0 q.1 q.2 ys0 o w h hB hl
set_option maxRecDepth 100000
set_option maxHeartbeats 4000000 in
theorem validPiece_walk (x0 x1 x2 x3 : Int) (x4 x5 : Bool) (w : World) : Calls Try.prog 61 #[.agg #[.int .i64 x0, .int .i64 x1, .int .i64 x2, .int .i64 x3, .bool x4, .bool x5]] w fun e w' => e = .returned (.bool (vpB ⟨x0, x1, x2, x3, x4, x5⟩)) ∧ Below w.heap.size w w' := by
  have HB : Hid (HoldV (w.alloc (.cells #[.int .i64 x0, .int .i64 x1, .int .i64 x2, .int .i64 x3, .bool x4, .bool x5] 48)) w.heap.size _ 48) := hide (heap_alloc_new _ _)
  have HW := hide ((Below.refl w.heap.size w).alloc (Nat.le_refl _) (.cells #[.int .i64 x0, .int .i64 x1, .int .i64 x2, .int .i64 x3, .bool x4, .bool x5] 48))
  have k0 := HB.out.cell 0 _ rfl; have k1 := HB.out.cell 1 _ rfl; have k2 := HB.out.cell 2 _ rfl; have k3 := HB.out.cell 3 _ rfl; have k4 := HB.out.cell 4 _ rfl; have k5 := HB.out.cell 5 _ rfl
  by_cases h0 : x0 < x1
  · cases h1 : inB x2 0 1000000000 with
    | false =>
      have E : Hid (vpB ⟨x0, x1, x2, x3, x4, x5⟩ = false) := hide (decide_eq_false (fun h => by have := inB_iff.2 h.2.1; rw [h1] at this; cases this))
      go_enter Try.func61, Try.ntmps61
      go_wp2_with (go_at_call 26; refine (isTime_walk _ _).mono ?_; rintro e w2 ⟨rfl, rfl⟩)
      go_ret
      exact ⟨ret_bool E.out.symm, HW.out⟩
    | true =>
      by_cases h2 : 1 ≤ x3
      · by_cases h3 : x3 ≤ 1000000
        · cases x4 with
          | true =>
            cases x5 with
            | true =>
              have E : Hid (vpB ⟨x0, x1, x2, x3, true, true⟩ = false) := hide (decide_eq_false (fun h => h.2.2.2 ⟨rfl, rfl⟩))
              go_enter Try.func61, Try.ntmps61
              go_wp2_with (go_at_call 26; refine (isTime_walk _ _).mono ?_; rintro e w2 ⟨rfl, rfl⟩)
              go_ret
              exact ⟨ret_bool E.out.symm, HW.out⟩
            | false =>
              have E : Hid (vpB ⟨x0, x1, x2, x3, true, false⟩ = true) := hide (decide_eq_true ⟨h0, inB_iff.1 h1, ⟨h2, h3⟩, by simp⟩)
              go_enter Try.func61, Try.ntmps61
              go_wp2_with (go_at_call 26; refine (isTime_walk _ _).mono ?_; rintro e w2 ⟨rfl, rfl⟩)
              go_ret
              exact ⟨ret_bool E.out.symm, HW.out⟩
          | false =>
            have E : Hid (vpB ⟨x0, x1, x2, x3, false, x5⟩ = true) := hide (decide_eq_true ⟨h0, inB_iff.1 h1, ⟨h2, h3⟩, by simp⟩)
            go_enter Try.func61, Try.ntmps61
            go_wp2_with (go_at_call 26; refine (isTime_walk _ _).mono ?_; rintro e w2 ⟨rfl, rfl⟩)
            go_ret
            exact ⟨ret_bool E.out.symm, HW.out⟩
        · have E : Hid (vpB ⟨x0, x1, x2, x3, x4, x5⟩ = false) := hide (decide_eq_false (fun h => h3 h.2.2.1.2))
          go_enter Try.func61, Try.ntmps61
          go_wp2_with (go_at_call 26; refine (isTime_walk _ _).mono ?_; rintro e w2 ⟨rfl, rfl⟩)
          go_ret
          exact ⟨ret_bool E.out.symm, HW.out⟩
      · have E : Hid (vpB ⟨x0, x1, x2, x3, x4, x5⟩ = false) := hide (decide_eq_false (fun h => h2 h.2.2.1.1))
        go_enter Try.func61, Try.ntmps61
        go_wp2_with (go_at_call 26; refine (isTime_walk _ _).mono ?_; rintro e w2 ⟨rfl, rfl⟩)
        go_ret
        exact ⟨ret_bool E.out.symm, HW.out⟩
  · have E : Hid (vpB ⟨x0, x1, x2, x3, x4, x5⟩ = false) := hide (decide_eq_false (fun h => h0 h.1))
    go_enter Try.func61, Try.ntmps61
    go_wp2_with (go_at_call 26; refine (isTime_walk _ _).mono ?_; rintro e w2 ⟨rfl, rfl⟩)
    go_ret
    exact ⟨ret_bool E.out.symm, HW.out⟩
set_option maxRecDepth 100000
set_option maxHeartbeats 8000000 in
theorem validBoard_walk (u x : Int) (a : Option Addr) (n cap : Nat) (os : List PieceM) (w : World) (hn : os.length = n) (ha : ArrP w a (os.flatMap valPiece)) (hm : n ≤ 1048576) : Calls Try.prog 39 #[.agg #[.int .i64 u, .int .i64 x, .slice a n cap]] w fun e w' => e = .returned (.bool (bokB u x os)) ∧ Below w.heap.size w w' := by
  have HB0 := hide (BoxV.start w #[.int .i64 u, .int .i64 x, .slice a n cap] 29)
  have k0 := HB0.out.cell 0 _ rfl; have k1 := HB0.out.cell 1 _ rfl; have k2 := HB0.out.cell 2 _ rfl
  have HN := hide hn; have HA := hide ha
  clear hn ha
  by_cases h0 : 0 ≤ u
  · by_cases h1 : x ≤ 1099511627776
    · by_cases h2 : (n : Int) ≤ 4096
      · have HU := hide h0; have HX := hide h1
        go_enter Try.func39, Try.ntmps39
        go_wp2_with fail
        clear k0 k1 k2
        generalize w.alloc (.cells #[.int .i64 u, .int .i64 x, .slice a n cap] 29) = V0 at *
        go_loopw [3, 25] (fun s t w2 => ∃ (i : Nat) (at_ : Int), i ≤ n ∧ t = .int .i64 i ∧ s = .int .i64 at_ ∧ Hid (chk u os = chk at_ (os.drop i)) ∧ Hid (BoxV w w2 #[.int .i64 u, .int .i64 x, .slice a n cap] 29)) (fun _ t _ => n - (intOf t).toNat)
        case atStart => exact ⟨0, u, Nat.zero_le _, rfl, rfl, hide rfl, HB0⟩
        case round =>
          obtain ⟨i, at_, hi, rfl, rfl, HC, HB⟩ := hrel
          by_cases hlt : i < n
          · skip
            have hio : i < os.length := by rw [HN.out]; exact hlt
            obtain ⟨b, off, rfl, hbs, c0, c1, c2, c3, c4, c5⟩ := piece_cells (HA.out.below HB.out.1 (Nat.le_refl _)) hio
            have HD := hide (HC.out.trans (congrArg (chk at_) (chk_drop hio)))
            generalize os[i] = o at *
            obtain ⟨x0, x1, x2, x3, x4, x5⟩ := o
            dsimp only at c0 c1 c2 c3 c4 c5
            have hal := (Below.refl wr.heap.size wr).alloc (Nat.le_refl _) (.cells #[.int .i64 x0, .int .i64 x1, .int .i64 x2, .int .i64 x3, .bool x4, .bool x5] 48)
            have HB2 := hide (HB.out.next hal)
            have HR2 : Hid (HoldV (wr.alloc (.cells #[.int .i64 x0, .int .i64 x1, .int .i64 x2, .int .i64 x3, .bool x4, .bool x5] 48)) wr.heap.size _ 48) := hide (heap_alloc_new _ _)
            have b0 := HB2.out.cell 0 _ rfl; have b1 := HB2.out.cell 1 _ rfl; have b2 := HB2.out.cell 2 _ rfl
            have r0 := HR2.out.cell 0 _ rfl; have r1 := HR2.out.cell 1 _ rfl; have r2 := HR2.out.cell 2 _ rfl; have r3 := HR2.out.cell 3 _ rfl; have r4 := HR2.out.cell 4 _ rfl; have r5 := HR2.out.cell 5 _ rfl
            clear hal
            by_cases he : x0 = at_
            · subst he
              have CV := hide (validPiece_walk x0 x1 x2 x3 x4 x5 (wr.alloc (.cells #[.int .i64 x0, .int .i64 x1, .int .i64 x2, .int .i64 x3, .bool x4, .bool x5] 48)))
              generalize hV : wr.alloc (.cells #[.int .i64 x0, .int .i64 x1, .int .i64 x2, .int .i64 x3, .bool x4, .bool x5] 48) = V at *
              cases hv : vpB ⟨x0, x1, x2, x3, x4, x5⟩ with
              | false =>
                rw [hv] at CV
                have E : Hid (bokB u x os = false) := hide (bokB_no (fun h => by have h4 := h.2.2.2; rw [HD.out, chk_ill (fun hh => by have := decide_eq_true hh.2; unfold vpB at hv; rw [this] at hv; cases hv)] at h4; cases h4))
                clear hv
                subst hV
                go_wp2_with (go_at_call 61; refine CV.out.mono ?_; rintro e w2 ⟨rfl, hw2⟩)
                go_ret
                exact ⟨ret_bool E.out.symm, (HB2.out.next hw2).1⟩
              | true =>
                rw [hv] at CV
                have HD2 : Hid (chk u os = chk x1 (os.drop (i + 1))) := hide (HD.out.trans (chk_cons rfl (of_decide_eq_true hv)))
                clear hv
                subst hV
                go_wp2_with (go_at_call 61; refine CV.out.mono ?_; rintro e w2 ⟨rfl, hw2⟩; have r1 := (HR2.out.next hw2).cell 1 _ rfl)
                exact ⟨⟨i + 1, x1, by omega, by go_num, rfl, HD2, hide (HB2.out.next hw2)⟩, by simp [intOf]; omega⟩
            · have E : Hid (bokB u x os = false) := hide (bokB_no (fun h => by have h4 := h.2.2.2; rw [HD.out, chk_ill (fun hh => he hh.1)] at h4; cases h4))
              have he2 : (x0 == at_) = false := beq_eq_false_iff_ne.2 he
              go_wp2_with fail
              go_ret
              exact ⟨ret_bool E.out.symm, HB2.out.1⟩
          · skip
            have hin : i = n := by omega
            subst hin
            have HC2 : Hid (chk u os = some at_) := hide (by rw [HC.out, List.drop_eq_nil_of_le (by rw [HN.out]; exact Nat.le_refl _)]; rfl)
            have b0 := HB.out.cell 0 _ rfl; have b1 := HB.out.cell 1 _ rfl; have b2 := HB.out.cell 2 _ rfl
            by_cases hx : at_ = x
            · subst hx
              have E : Hid (bokB u at_ os = true) := hide (bokB_yes ⟨HU.out, HX.out, by rw [HN.out]; omega, HC2.out⟩)
              go_wp2_with fail
              go_ret
              exact ⟨ret_bool E.out.symm, HB.out.1⟩
            · have hx2 : (at_ == x) = false := beq_eq_false_iff_ne.2 hx
              have E : Hid (bokB u x os = false) := hide (bokB_no (fun h => by have := h.2.2.2; rw [HC2.out] at this; cases this; exact hx rfl))
              go_wp2_with fail
              go_ret
              exact ⟨ret_bool E.out.symm, HB.out.1⟩
      · skip
        have E : Hid (bokB u x os = false) := hide (bokB_no (fun h => h2 (by have := h.2.2.1; rw [HN.out] at this; omega)))
        go_enter Try.func39, Try.ntmps39
        go_wp2_with fail
        go_ret
        exact ⟨ret_bool E.out.symm, HB0.out.1⟩
    · skip
      have E : Hid (bokB u x os = false) := hide (bokB_no (fun h => h1 h.2.1))
      go_enter Try.func39, Try.ntmps39
      go_wp2_with fail
      go_ret
      exact ⟨ret_bool E.out.symm, HB0.out.1⟩
  · skip
    have E : Hid (bokB u x os = false) := hide (bokB_no (fun h => h0 h.1))
    go_enter Try.func39, Try.ntmps39
    go_wp2_with fail
    go_ret
    exact ⟨ret_bool E.out.symm, HB0.out.1⟩

set_option maxHeartbeats 8000000 in
theorem l15OK_walk (u x : Int) (a : Option Addr) (n cap : Nat) (os : List PieceM) (w : World) (hn : os.length = n) (ha : ArrP w a (os.flatMap valPiece)) (hm : n ≤ 1048576) : Calls Try.prog 20 #[.agg #[.int .i64 u, .int .i64 x, .slice a n cap]] w fun e w' => e = .returned (.bool (bokB u x os)) ∧ Below w.heap.size w w' := by
  have HB0 := hide (BoxV.start w #[.int .i64 u, .int .i64 x, .slice a n cap] 29)
  have k0 := HB0.out.cell 0 _ rfl; have k1 := HB0.out.cell 1 _ rfl; have k2 := HB0.out.cell 2 _ rfl
  have HN := hide hn; have HA := hide ha
  clear hn ha
  by_cases h0 : 0 ≤ u
  · by_cases h3 : u ≤ x
    · by_cases h1 : x ≤ 1099511627776
      · by_cases h2 : (n : Int) ≤ 4096
        · have HU := hide h0; have HX := hide h1
          go_enter Try.func20, Try.ntmps20
          go_wp2_with fail
          clear k0 k1 k2
          generalize w.alloc (.cells #[.int .i64 u, .int .i64 x, .slice a n cap] 29) = V0 at *
          go_loopw [3, 4] (fun s t w2 => ∃ (i : Nat) (at_ : Int), i ≤ n ∧ t = .int .i64 i ∧ s = .int .i64 at_ ∧ Hid (chk u os = chk at_ (os.drop i)) ∧ Hid (BoxV w w2 #[.int .i64 u, .int .i64 x, .slice a n cap] 29)) (fun _ t _ => n - (intOf t).toNat)
          case atStart => exact ⟨0, u, Nat.zero_le _, rfl, rfl, hide rfl, HB0⟩
          case round =>
            obtain ⟨i, at_, hi, rfl, rfl, HC, HB⟩ := hrel
            by_cases hlt : i < n
            · have p0 := HB.out.cell 0 _ rfl; have p1 := HB.out.cell 1 _ rfl; have p2 := HB.out.cell 2 _ rfl
              have hio : i < os.length := by rw [HN.out]; exact hlt
              obtain ⟨b, off, rfl, hbs, c0, c1, c2, c3, c4, c5⟩ := piece_cells (HA.out.below HB.out.1 (Nat.le_refl _)) hio
              have HD := hide (HC.out.trans (congrArg (chk at_) (chk_drop hio)))
              generalize os[i] = o at *
              obtain ⟨x0, x1, x2, x3, x4, x5⟩ := o
              dsimp only at c0 c1 c2 c3 c4 c5
              have hal := (Below.refl wr.heap.size wr).alloc (Nat.le_refl _) (.cells #[.int .i64 x0, .int .i64 x1, .int .i64 x2, .int .i64 x3, .bool x4, .bool x5] 48)
              have HB2 := hide (HB.out.next hal)
              have HR2 : Hid (HoldV (wr.alloc (.cells #[.int .i64 x0, .int .i64 x1, .int .i64 x2, .int .i64 x3, .bool x4, .bool x5] 48)) wr.heap.size _ 48) := hide (heap_alloc_new _ _)
              have b0 := HB2.out.cell 0 _ rfl; have b1 := HB2.out.cell 1 _ rfl; have b2 := HB2.out.cell 2 _ rfl
              have r0 := HR2.out.cell 0 _ rfl; have r1 := HR2.out.cell 1 _ rfl; have r2 := HR2.out.cell 2 _ rfl; have r3 := HR2.out.cell 3 _ rfl; have r4 := HR2.out.cell 4 _ rfl; have r5 := HR2.out.cell 5 _ rfl
              clear hal
              by_cases he : x0 = at_
              · subst he
                by_cases h5 : x0 < x1
                · cases h6 : inB x2 0 1000000000 with
                  | false =>
                    have E : Hid (bokB u x os = false) := hide (bokB_no (fun h => by have h4 := h.2.2.2; rw [HD.out, chk_ill (fun hh => by have := inB_iff.2 hh.2.2.1; rw [h6] at this; cases this)] at h4; cases h4))
                    go_wp2_with (go_at_call 23; refine (In_walk _ _ _ _).mono ?_; rintro e w2 ⟨rfl, rfl⟩)
                    go_ret
                    exact ⟨ret_bool E.out.symm, HB2.out.1⟩
                  | true =>
                    cases h7 : inB x3 1 1000000 with
                    | false =>
                      have E : Hid (bokB u x os = false) := hide (bokB_no (fun h => by have h4 := h.2.2.2; rw [HD.out, chk_ill (fun hh => by have := inB_iff.2 hh.2.2.2.1; rw [h7] at this; cases this)] at h4; cases h4))
                      go_wp2_with (go_at_call 23; refine (In_walk _ _ _ _).mono ?_; rintro e w2 ⟨rfl, rfl⟩)
                      go_ret
                      exact ⟨ret_bool E.out.symm, HB2.out.1⟩
                    | true =>
                      cases x4 with
                      | true =>
                        cases x5 with
                        | true =>
                          have E : Hid (bokB u x os = false) := hide (bokB_no (fun h => by have h4 := h.2.2.2; rw [HD.out, chk_ill (fun hh => hh.2.2.2.2 ⟨rfl, rfl⟩)] at h4; cases h4))
                          go_wp2_with (go_at_call 23; refine (In_walk _ _ _ _).mono ?_; rintro e w2 ⟨rfl, rfl⟩)
                          go_ret
                          exact ⟨ret_bool E.out.symm, HB2.out.1⟩
                        | false =>
                          have HD2 : Hid (chk u os = chk x1 (os.drop (i + 1))) := hide (HD.out.trans (chk_cons rfl ⟨h5, inB_iff.1 h6, inB_iff.1 h7, by simp⟩))
                          go_wp2_with (go_at_call 23; refine (In_walk _ _ _ _).mono ?_; rintro e w2 ⟨rfl, rfl⟩)
                          exact ⟨⟨i + 1, x1, by omega, by go_num, rfl, HD2, HB2⟩, by simp [intOf]; omega⟩
                      | false =>
                        have HD2 : Hid (chk u os = chk x1 (os.drop (i + 1))) := hide (HD.out.trans (chk_cons rfl ⟨h5, inB_iff.1 h6, inB_iff.1 h7, by simp⟩))
                        go_wp2_with (go_at_call 23; refine (In_walk _ _ _ _).mono ?_; rintro e w2 ⟨rfl, rfl⟩)
                        exact ⟨⟨i + 1, x1, by omega, by go_num, rfl, HD2, HB2⟩, by simp [intOf]; omega⟩
                · skip
                  have E : Hid (bokB u x os = false) := hide (bokB_no (fun h => by have h4 := h.2.2.2; rw [HD.out, chk_ill (fun hh => h5 hh.2.1)] at h4; cases h4))
                  go_wp2_with (go_at_call 23; refine (In_walk _ _ _ _).mono ?_; rintro e w2 ⟨rfl, rfl⟩)
                  go_ret
                  exact ⟨ret_bool E.out.symm, HB2.out.1⟩
              · have he2 : (x0 == at_) = false := beq_eq_false_iff_ne.2 he
                have E : Hid (bokB u x os = false) := hide (bokB_no (fun h => by have h4 := h.2.2.2; rw [HD.out, chk_ill (fun hh => he hh.1)] at h4; cases h4))
                go_wp2_with (go_at_call 23; refine (In_walk _ _ _ _).mono ?_; rintro e w2 ⟨rfl, rfl⟩)
                go_ret
                exact ⟨ret_bool E.out.symm, HB2.out.1⟩
            · skip
              have hin : i = n := by omega
              subst hin
              have HC2 : Hid (chk u os = some at_) := hide (by rw [HC.out, List.drop_eq_nil_of_le (by rw [HN.out]; exact Nat.le_refl _)]; rfl)
              have b0 := HB.out.cell 0 _ rfl; have b1 := HB.out.cell 1 _ rfl; have b2 := HB.out.cell 2 _ rfl
              by_cases hx : at_ = x
              · subst hx
                have E : Hid (bokB u at_ os = true) := hide (bokB_yes ⟨HU.out, HX.out, by rw [HN.out]; omega, HC2.out⟩)
                go_wp2_with fail
                go_ret
                exact ⟨ret_bool E.out.symm, HB.out.1⟩
              · have hx2 : (at_ == x) = false := beq_eq_false_iff_ne.2 hx
                have E : Hid (bokB u x os = false) := hide (bokB_no (fun h => by have := h.2.2.2; rw [HC2.out] at this; cases this; exact hx rfl))
                go_wp2_with fail
                go_ret
                exact ⟨ret_bool E.out.symm, HB.out.1⟩
        · skip
          have E : Hid (bokB u x os = false) := hide (bokB_no (fun h => h2 (by have := h.2.2.1; rw [HN.out] at this; omega)))
          go_enter Try.func20, Try.ntmps20
          go_wp2_with fail
          go_ret
          exact ⟨ret_bool E.out.symm, HB0.out.1⟩
      · skip
        have E : Hid (bokB u x os = false) := hide (bokB_no (fun h => h1 h.2.1))
        go_enter Try.func20, Try.ntmps20
        go_wp2_with fail
        go_ret
        exact ⟨ret_bool E.out.symm, HB0.out.1⟩
    · skip
      have E : Hid (bokB u x os = false) := hide (bokB_no (fun h => h3 (chk_le _ _ _ h.2.2.2)))
      go_enter Try.func20, Try.ntmps20
      go_wp2_with fail
      go_ret
      exact ⟨ret_bool E.out.symm, HB0.out.1⟩
  · skip
    have E : Hid (bokB u x os = false) := hide (bokB_no (fun h => h0 h.1))
    go_enter Try.func20, Try.ntmps20
    go_wp2_with fail
    go_ret
    exact ⟨ret_bool E.out.symm, HB0.out.1⟩
set_option maxRecDepth 100000
theorem DL.mono {w : World} {B C L : Nat} {u x : Int} {ns : List (Nat × PieceM)} (h : DL w B L u x ns) (hC : C ≤ B) : DL w C L u x ns := ⟨h.head, h.seg, h.nd, fun b hb => Nat.le_trans hC (h.lo b hb)⟩
set_option maxHeartbeats 8000000 in
theorem newPieceList_no (u x : Int) (a : Option Addr) (n cap : Nat) (os : List PieceM) (w : World) (hn : os.length = n) (ha : ArrP w a (os.flatMap valPiece)) (hm : n ≤ 1048576) (hno : ¬ bOK u x os) :
    Calls Try.prog 21 #[.agg #[.int .i64 u, .int .i64 x, .slice a n cap]] w fun e w' => e = .returned (.tuple #[.pointer none, .bool false]) ∧ Below w.heap.size w w' := by
  have HB0 := hide (BoxV.start w #[.int .i64 u, .int .i64 x, .slice a n cap] 29)
  have k0 := HB0.out.cell 0 _ rfl; have k1 := HB0.out.cell 1 _ rfl; have k2 := HB0.out.cell 2 _ rfl
  have CV := hide (validBoard_walk u x a n cap os (w.alloc (.cells #[.int .i64 u, .int .i64 x, .slice a n cap] 29)) hn (ha.below HB0.out.1 (Nat.le_refl _)) hm)
  rw [bokB_no hno] at CV
  clear hn ha hno
  go_enter Try.func21, Try.ntmps21
  go_wp2_with fail
  refine CV.out.mono ?_
  rintro e w1 ⟨rfl, hw1⟩
  go_wp2_with fail
  go_ret2
  exact ⟨rfl, (HB0.out.next hw1).1⟩
set_option maxHeartbeats 8000000 in
theorem newPieceList_yes (u x : Int) (a : Option Addr) (n cap : Nat) (os : List PieceM) (w : World) (hn : os.length = n) (ha : ArrP w a (os.flatMap valPiece)) (hm : n ≤ 1048576) (hok : bOK u x os) :
    Calls Try.prog 21 #[.agg #[.int .i64 u, .int .i64 x, .slice a n cap]] w fun e w' => ∃ (L : Nat) (ns : List (Nat × PieceM)), e = .returned (.tuple #[.pointer (some ⟨L, 0, none⟩), .bool true]) ∧ DL w' w.heap.size L u x ns ∧ ns.map Prod.snd = os ∧ Below w.heap.size w w' := by
  have HB0 := hide (BoxV.start w #[.int .i64 u, .int .i64 x, .slice a n cap] 29)
  have k0 := HB0.out.cell 0 _ rfl; have k1 := HB0.out.cell 1 _ rfl; have k2 := HB0.out.cell 2 _ rfl
  have CV := hide (validBoard_walk u x a n cap os (w.alloc (.cells #[.int .i64 u, .int .i64 x, .slice a n cap] 29)) hn (ha.below HB0.out.1 (Nat.le_refl _)) hm)
  rw [bokB_yes hok] at CV
  have HN := hide hn; have HA := hide ha
  clear hn ha hok
  go_enter Try.func21, Try.ntmps21
  go_wp2_with fail
  refine CV.out.mono ?_
  rintro e w1 ⟨rfl, hw1⟩
  have HB1 := hide (HB0.out.next hw1)
  clear hw1 k0 k1 k2 CV HB0
  have k0 := HB1.out.cell 0 _ rfl; have k1 := HB1.out.cell 1 _ rfl; have k2 := HB1.out.cell 2 _ rfl
  have HB2 := hide (HB1.out.next ((Below.refl _ _).alloc (Nat.le_refl _) (.cells #[.int .i64 u, .int .i64 x, .int .i64 0, .pointer none, .pointer none] plT)))
  have HD : Hid (DL (w1.alloc (.cells #[.int .i64 u, .int .i64 x, .int .i64 0, .pointer none, .pointer none] plT)) w1.heap.size w1.heap.size u x []) := hide ⟨hv_new _ _ _, trivial, by simp, fun b hb => by simp at hb; omega⟩
  have hL : w.heap.size < w1.heap.size := HB1.out.2.1
  go_wp2_with fail
  clear k0 k1 k2
  generalize w1.alloc (.cells #[.int .i64 u, .int .i64 x, .int .i64 0, .pointer none, .pointer none] plT) = V0 at *
  generalize w1.heap.size = L at *
  go_loopw [19] (fun t w2 => ∃ (i : Nat) (ns : List (Nat × PieceM)), i ≤ n ∧ t = .int .i64 i ∧ Hid (ns.map Prod.snd = os.take i) ∧ Hid (DL w2 L L u x ns) ∧ Hid (BoxV w w2 #[.int .i64 u, .int .i64 x, .slice a n cap] 29)) (fun t _ => n - (intOf t).toNat)
  case atStart => exact ⟨0, [], Nat.zero_le _, rfl, hide rfl, HD, HB2⟩
  case round =>
    obtain ⟨i, ns, hi, rfl, HM, HD, HB⟩ := hrel
    by_cases hlt : i < n
    · have hio : i < os.length := by rw [HN.out]; exact hlt
      obtain ⟨b, off, rfl, hbs, c0, c1, c2, c3, c4, c5⟩ := piece_cells (HA.out.below HB.out.1 (Nat.le_refl _)) hio
      have HT : Hid (os.take (i + 1) = os.take i ++ [os[i]]) := hide (List.take_append_getElem hio).symm
      have HNS : Hid (ns.length ≤ 1048576) := hide (by have := congrArg List.length HM.out; rw [List.length_map, List.length_take] at this; omega)
      generalize os[i] = o at *
      have hal := (Below.refl wr.heap.size wr).alloc (Nat.le_refl _) (.cells #[.int .i64 o.f0, .int .i64 o.f1, .int .i64 o.f2, .int .i64 o.f3, .bool o.f4, .bool o.f5] 48)
      have HR : Hid (HoldV (wr.alloc (.cells #[.int .i64 o.f0, .int .i64 o.f1, .int .i64 o.f2, .int .i64 o.f3, .bool o.f4, .bool o.f5] 48)) wr.heap.size _ 48) := hide (hv_new _ _ _)
      have HB2 := hide (HB.out.next hal)
      have HD2 := hide (HD.out.next hal)
      have hLr : L < wr.heap.size := HD.out.head.lt
      clear hal HB HD
      go_wp2_with fail
      clear c0 c1 c2 c3 c4 c5
      generalize wr.alloc (.cells #[.int .i64 o.f0, .int .i64 o.f1, .int .i64 o.f2, .int .i64 o.f3, .bool o.f4, .bool o.f5] 48) = V at *
      have l4 := HD2.out.head.cell 4 _ rfl
      have r0 := HR.out.cell 0 _ rfl; have r1 := HR.out.cell 1 _ rfl; have r2 := HR.out.cell 2 _ rfl; have r3 := HR.out.cell 3 _ rfl; have r4 := HR.out.cell 4 _ rfl; have r5 := HR.out.cell 5 _ rfl
      have hLV : L ≤ V.heap.size := Nat.le_of_lt HD2.out.head.lt
      have CP := hide (put_walk L L u x ns [] o V.drew (by rw [List.append_nil]; exact HD2.out.drew) hLV (by rw [List.append_nil]; exact HNS.out))
      go_region_with ((go_at_call 40; refine CP.out.mono ?_; rintro e w3 ⟨rfl, hD3, hb3, hs3⟩))
      all_goals
        have HM2 : Hid ((ns ++ [(V.drew.heap.size + 1, o)]).map Prod.snd = os.take (i + 1)) := hide (by rw [HT.out, List.map_append, HM.out]; rfl)
        have HB3 := hide (HB2.out.keep (below_drew hb3) hL)
        have HD3 := hide hD3
        clear hD3 hb3 hs3 HD2 HB2 HR CP r0 r1 r2 r3 r4 r5 l4
        go_wp2_with fail
        exact ⟨⟨i + 1, _, by omega, by go_num, HM2, HD3, HB3⟩, by simp [intOf]; omega⟩
    · have hin : i = n := by omega
      subst hin
      have HM2 : Hid (ns.map Prod.snd = os) := hide (by rw [HM.out, ← HN.out, List.take_length])
      go_wp2_with fail
      go_ret2
      exact ⟨L, ns, rfl, HD.out.mono (Nat.le_of_lt hL), HM2.out, HB.out.1⟩
end Go.Proofs.Ytlkbmdkidpfioaa
