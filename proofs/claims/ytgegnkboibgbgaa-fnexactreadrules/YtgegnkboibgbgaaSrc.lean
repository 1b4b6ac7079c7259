/-
Contracts of functions of this seat.
-/
import Derived.Test.YtgegnkboibgbgaaRows
import Derived.WalkKit
import Derived.ProofKit
import Derived.OpenShut
import Derived.Test.YtgegnkboibgbgaaPrf
import Derived.RegionTactic
import Derived.ChangeAlike
namespace Go.Proofs.Ytgegnkboibgbgaa
open Go.ChangeShapes Go.WideShapes Go.ChangeAt Go.RowKit
set_option linter.unusedVariables false
set_option maxRecDepth 100000
/-- A source of numbers in block g: its code's bytes zs, a place in them, a state. -/
def Src (w : World) (g t : Nat) (zs : List Int) : Prop :=
  ∃ (a : Option Addr) (cap : Nat) (pos st : Int), w.heap[g]? = some (.cells #[.slice a zs.length cap, .int .i64 pos, .int .u64 st] t) ∧ Arr w a zs ∧ 0 ≤ pos ∧ pos ≤ (zs.length : Int) ∧ 0 ≤ st ∧ st ≤ 18446744073709551615
theorem src_cells {w : World} {g t : Nat} {a b c : Value} (h : w.heap[g]? = some (.cells #[a, b, c] t)) :
    w.cell? ⟨g, 0, none⟩ = some a ∧ w.cell? ⟨g, 1, none⟩ = some b ∧ w.cell? ⟨g, 2, none⟩ = some c ∧ ∀ o, w.frozen? ⟨g, o, none⟩ = false :=
  ⟨cell_of_row w g 0 _ _ _ h, cell_of_row w g 1 _ _ _ h, cell_of_row w g 2 _ _ _ h, fun o => frozen_of_row w g o _ _ h⟩
theorem wrap_u64_bd (n : Int) : 0 ≤ IntKind.u64.wrap n ∧ IntKind.u64.wrap n ≤ 18446744073709551615 := by rw [wrap_u64]; omega
theorem xor_u64_bd (x y : Int) : 0 ≤ bits .xor .u64 x y ∧ bits .xor .u64 x y ≤ 18446744073709551615 := by
  have h := wf_bits .xor .u64 x y
  simpa [Lit.wf, IntKind.min, IntKind.max, IntKind.signed, IntKind.bits] using h
/-- A store into the block of a source changes nothing else. -/
theorem src_set {w : World} {g t j : Nat} {cur : Array Value} (u : Value) (h : w.heap[g]? = some (.cells cur t)) :
    (w.setCell ⟨g, j, none⟩ u).heap[g]? = some (.cells (cur.setIfInBounds j u) t) ∧ w.grownBy (w.setCell ⟨g, j, none⟩ u) (some g) :=
  ⟨heap_setCell_same w g j cur t u h, ⟨rfl, rfl, rfl, by simp, fun k _ hk => heap_setCell_other w ⟨g, j, none⟩ k u (fun e => hk (by simp [e]))⟩⟩
theorem grown_drewN {a w : World} {row : Option Nat} (h : a.grownBy w row) (n : Nat) : a.grownBy (w.drewN n) row := ⟨h.os, h.tape, h.output, h.size, h.block⟩
/-- Bytes that lie outside block g are the same when that block is written. -/
theorem Arr.grown {w w' : World} {g t : Nat} {a : Option Addr} {x y z : Value} {zs : List Int} (h : Arr w a zs) (hg : w.grownBy w' (some g)) (hb : w.heap[g]? = some (.cells #[x, y, z] t))
    (hx : ∀ n, x ≠ .int .u8 n) (hy : ∀ n, y ≠ .int .u8 n) (hz : ∀ n, z ≠ .int .u8 n) : Arr w' a zs := by
  refine ⟨h.1, fun j hj => ?_⟩
  obtain ⟨b, off, ha, hlt, hc⟩ := h.2 j hj
  have hne : b ≠ g := by
    rintro rfl
    rw [cell_of_row w b (off + j) _ _ _ hb] at hc
    match hoj : off + j with
    | 0 => rw [hoj] at hc; simp at hc; exact hx _ hc
    | 1 => rw [hoj] at hc; simp at hc; exact hy _ hc
    | 2 => rw [hoj] at hc; simp at hc; exact hz _ hc
    | k + 3 => rw [hoj] at hc; simp at hc
  refine ⟨b, off, ha, Nat.lt_of_lt_of_le hlt hg.size, ?_⟩
  exact hg.cell hc (by simp [hne])
theorem rem_bd {x n : Int} (hx : 0 ≤ x) (hn : 0 < n) (hn1 : n ≤ 9223372036854775807) : 0 ≤ wrap64 (x.tmod n) ∧ wrap64 (x.tmod n) < n := by
  rw [Int.tmod_eq_emod_of_nonneg hx]
  have h1 := Int.emod_nonneg x (show n ≠ 0 by omega)
  have h2 := Int.emod_lt_of_pos x hn
  unfold wrap64
  omega
theorem rem_bd' {x n : Int} (hn : 0 < n) (hn1 : n ≤ 9223372036854775807) : 0 ≤ wrap64 (x % n) ∧ wrap64 (x % n) < n := by
  have h1 := Int.emod_nonneg x (show n ≠ 0 by omega)
  have h2 := Int.emod_lt_of_pos x hn
  unfold wrap64
  omega

/-- A source of numbers in block g whose code is the slice (a, n, cap). -/
def SrcA (w : World) (g t n : Nat) (a : Option Addr) (cap : Nat) : Prop :=
  ∃ (pos st : Int), w.heap[g]? = some (.cells #[.slice a n cap, .int .i64 pos, .int .u64 st] t) ∧ 0 ≤ pos ∧ pos ≤ (n : Int) ∧ 0 ≤ st ∧ st ≤ 18446744073709551615
theorem SrcA.lt {w : World} {g t n : Nat} {a : Option Addr} {cap : Nat} (h : SrcA w g t n a cap) : g < w.heap.size := by
  obtain ⟨pos, st, hg, _⟩ := h
  by_cases hlt : g < w.heap.size
  · exact hlt
  · rw [Array.getElem?_eq_none (by omega)] at hg; cases hg
/-- Only what happens to its own block counts for a source. -/
theorem SrcA.same {w w' : World} {g t n : Nat} {a : Option Addr} {cap : Nat} (h : SrcA w g t n a cap) (hb : w'.heap[g]? = w.heap[g]?) : SrcA w' g t n a cap := by
  obtain ⟨pos, st, hg, r⟩ := h
  exact ⟨pos, st, by rw [hb]; exact hg, r⟩
theorem SrcA.alloc {w : World} {g t n : Nat} {a : Option Addr} {cap : Nat} (h : SrcA w g t n a cap) (o : Obj) : SrcA (w.alloc o) g t n a cap :=
  h.same (Below.heap_alloc w o g h.lt)
theorem SrcA.below {w w' : World} {B g t n : Nat} {a : Option Addr} {cap : Nat} (h : SrcA w g t n a cap) (hb : Below B w w') (hB : w.heap.size ≤ B) : SrcA w' g t n a cap :=
  h.same (hb.block g (Nat.lt_of_lt_of_le h.lt hB))
theorem SrcA.set {w : World} {g t n : Nat} {a : Option Addr} {cap : Nat} (h : SrcA w g t n a cap) {p : Addr} (hp : g ≠ p.block) (u : Value) : SrcA (w.setCell p u) g t n a cap :=
  h.same (heap_setCell_other w p g u hp)
/-- Bytes elsewhere are the same behind whatever leaves all but the source's block as it was. -/
theorem Arr.srcA {w w' : World} {g t n cap : Nat} {a b : Option Addr} {zs : List Int} (h : Arr w b zs) (hs : SrcA w g t n a cap) (hg : w.grownBy w' (some g)) : Arr w' b zs := by
  obtain ⟨pos, st, hb, _⟩ := hs
  exact h.grown hg hb (by simp) (by simp) (by simp)
theorem grown_alloc {a w : World} {row : Option Nat} (h : a.grownBy w row) (o : Obj) : a.grownBy (w.alloc o) row := grown_trans h (World.grownBy_alloc w o row)
/-- A store into a block that was not there before. -/
theorem grown_set {a w : World} {row : Option Nat} (h : a.grownBy w row) {p : Addr} (hp : a.heap.size ≤ p.block) (u : Value) : a.grownBy (w.setCell p u) row :=
  ⟨h.os, h.tape, h.output, by simpa using h.size, fun k hk hr => by rw [heap_setCell_other w p k u (by omega)]; exact h.block k hk hr⟩
theorem grown_drew {a w : World} {row : Option Nat} (h : a.grownBy w row) : a.grownBy w.drew row := ⟨h.os, h.tape, h.output, h.size, h.block⟩
theorem grown_below {a w w' : World} {row : Option Nat} (h : a.grownBy w row) (hb : Below w.heap.size w w') : a.grownBy w' row :=
  ⟨hb.os.trans h.os, hb.tape.trans h.tape, hb.output.trans h.output, Nat.le_trans h.size hb.size, fun k hk hr => (hb.block k (Nat.lt_of_lt_of_le hk h.size)).trans (h.block k hk hr)⟩
theorem below_grown {w w' : World} {g : Nat} {B : Nat} (hB : B ≤ g) (hw : B ≤ w.heap.size) (h : w.grownBy w' (some g)) : Below B w w' :=
  ⟨h.os, h.tape, h.output, h.size, fun k hk => h.block k (by omega) (by simp; omega)⟩


/-- Where a source is being made: its place in the answer, and the source itself. -/
def Made (w w2 : World) (t : Nat) (a : Option Addr) (n cap : Nat) : Prop :=
  Below w.heap.size w w2 ∧ w.heap.size + 1 < w2.heap.size ∧ w2.heap[w.heap.size]? = some (.cells #[.slice none 0 0, .int .i64 0, .int .u64 0] t) ∧
    ∃ st : Int, 0 ≤ st ∧ st ≤ 18446744073709551615 ∧ w2.heap[w.heap.size + 1]? = some (.cells #[.slice a n cap, .int .i64 0, .int .u64 st] t)
theorem made_start (w : World) (t : Nat) (a : Option Addr) (n cap : Nat) (st : Int) (h0 : 0 ≤ st) (h1 : st ≤ 18446744073709551615) :
    Made w ((w.alloc (.cells #[.slice none 0 0, .int .i64 0, .int .u64 0] t)).alloc (.cells #[.slice a n cap, .int .i64 0, .int .u64 st] t)) t a n cap := by
  refine ⟨((Below.refl _ _).alloc (Nat.le_refl _) _).alloc (by rw [World.size_alloc]; omega) _, by rw [World.size_alloc, World.size_alloc]; omega, ?_, st, h0, h1, ?_⟩
  · rw [Below.heap_alloc _ _ w.heap.size (by rw [World.size_alloc]; omega)]; exact heap_alloc_new w _
  · have h := heap_alloc_new (w.alloc (.cells #[.slice none 0 0, .int .i64 0, .int .u64 0] t)) (.cells #[.slice a n cap, .int .i64 0, .int .u64 st] t)
    rw [World.size_alloc] at h; exact h
theorem made_set {w w2 : World} {t : Nat} {a : Option Addr} {n cap : Nat} (h : Made w w2 t a n cap) (s : Int) (h0 : 0 ≤ s) (h1 : s ≤ 18446744073709551615) :
    Made w (w2.setCell ⟨w.heap.size + 1, 2, none⟩ (.int .u64 s)).drew t a n cap := by
  obtain ⟨hb, hz, hr, st, _, _, hg⟩ := h
  refine ⟨(hb.setCell (p := ⟨w.heap.size + 1, 2, none⟩) (by show w.heap.size ≤ w.heap.size + 1; omega) _).drew, ?_, ?_, s, h0, h1, ?_⟩
  · show _ < (w2.setCell _ _).heap.size
    simpa using hz
  · show (w2.setCell _ _).heap[w.heap.size]? = _
    rw [heap_setCell_other w2 ⟨w.heap.size + 1, 2, none⟩ w.heap.size _ (by simp)]; exact hr
  · exact heap_setCell_same w2 (w.heap.size + 1) 2 _ t _ hg
end Go.Proofs.Ytgegnkboibgbgaa
