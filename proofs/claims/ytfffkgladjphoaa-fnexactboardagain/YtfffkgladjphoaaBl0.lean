/-
Contracts of functions of this seat.
-/
import Derived.Test.YtfffkgladjphoaaRows
import Derived.WalkKit
import Derived.ProofKit
import Derived.OpenShut
import Derived.Test.YtfffkgladjphoaaBly
namespace Go.Proofs.Ytfffkgladjphoaa
open Go.ChangeShapes Go.WideShapes Go.ChangeAt Go.RowKit
set_option linter.unusedVariables false
set_option maxRecDepth 100000
theorem In_yes (n a b : Int) (w : World) (h : a ≤ n ∧ n ≤ b) :
    Calls Try.prog 25 #[.int .i64 n, .int .i64 a, .int .i64 b] w fun e w' => e = .returned (.bool true) ∧ w' = w := by
  obtain ⟨h1, h2⟩ := h
  go_enter Try.func25, Try.ntmps25
  go_wp2
  go_ret
  exact ⟨rfl, rfl⟩
theorem In_no (n a b : Int) (w : World) (h : ¬ (a ≤ n ∧ n ≤ b)) :
    Calls Try.prog 25 #[.int .i64 n, .int .i64 a, .int .i64 b] w fun e w' => e = .returned (.bool false) ∧ w' = w := by
  by_cases h1 : a ≤ n
  · have h2 : ¬ n ≤ b := fun h2 => h ⟨h1, h2⟩
    clear h
    go_enter Try.func25, Try.ntmps25
    go_wp2
    go_ret
    exact ⟨rfl, rfl⟩
  · clear h
    go_enter Try.func25, Try.ntmps25
    go_wp2
    go_ret
    exact ⟨rfl, rfl⟩

def inB (x l h : Int) : Bool := decide (l ≤ x ∧ x ≤ h)
theorem inB_iff {x l h : Int} : inB x l h = true ↔ l ≤ x ∧ x ≤ h := by unfold inB; simp
theorem In_walk (n l h : Int) (w : World) :
    Calls Try.prog 25 #[.int .i64 n, .int .i64 l, .int .i64 h] w fun e w' => e = .returned (.bool (inB n l h)) ∧ w' = w := by
  by_cases hh : l ≤ n ∧ n ≤ h
  · rw [inB_iff.2 hh]; exact In_yes n l h w hh
  · rw [show inB n l h = false by unfold inB; exact decide_eq_false hh]; exact In_no n l h w hh

/-- A box laid at the world's end, and kept. -/
def BoxV (w W : World) (vs : Array Value) (T : Nat) : Prop := Below w.heap.size w W ∧ w.heap.size < W.heap.size ∧ W.heap[w.heap.size]? = some (.cells vs T)
theorem BoxV.start (w : World) (vs : Array Value) (T : Nat) : BoxV w (w.alloc (.cells vs T)) vs T :=
  ⟨(Below.refl _ _).alloc (Nat.le_refl _) _, by rw [World.size_alloc]; omega, heap_alloc_new _ _⟩
theorem BoxV.next {w W W' : World} {vs : Array Value} {T : Nat} (h : BoxV w W vs T) (hb : Below W.heap.size W W') : BoxV w W' vs T :=
  ⟨h.1.trans (hb.mono (Nat.le_of_lt h.2.1)), Nat.lt_of_lt_of_le h.2.1 hb.size, (hb.block _ h.2.1).trans h.2.2⟩
theorem BoxV.keep {w W W' : World} {vs : Array Value} {T B : Nat} (h : BoxV w W vs T) (hb : Below B W W') (hB : w.heap.size < B) : BoxV w W' vs T :=
  ⟨h.1.trans (hb.mono (Nat.le_of_lt hB)), Nat.lt_of_lt_of_le h.2.1 hb.size, (hb.block _ hB).trans h.2.2⟩
def HoldV (w : World) (H : Nat) (vs : Array Value) (T : Nat) : Prop := w.heap[H]? = some (.cells vs T)
theorem HoldV.lt {w : World} {H T : Nat} {vs : Array Value} (h : HoldV w H vs T) : H < w.heap.size := (Array.getElem?_eq_some_iff.1 h).1
theorem HoldV.below {w w' : World} {H T B : Nat} {vs : Array Value} (h : HoldV w H vs T) (hb : Below B w w') (hB : H < B) : HoldV w' H vs T := (hb.block H hB).trans h
theorem HoldV.next {w w' : World} {H T : Nat} {vs : Array Value} (h : HoldV w H vs T) (hb : Below w.heap.size w w') : HoldV w' H vs T := h.below hb h.lt
theorem HoldV.cell {w : World} {H T : Nat} {vs : Array Value} (h : HoldV w H vs T) (i : Nat) (v : Value) (hv : vs[i]? = some v) : w.cell? ⟨H, i, none⟩ = some v := (cell_of_row _ _ _ _ _ _ h).trans hv
theorem HoldV.frozen {w : World} {H T : Nat} {vs : Array Value} (h : HoldV w H vs T) (o : Nat) : w.frozen? ⟨H, o, none⟩ = false := frozen_of_row w H o _ _ h
theorem two_allocs (w : World) (o1 o2 : Obj) : Below w.heap.size w ((w.alloc o1).alloc o2) ∧ ((w.alloc o1).alloc o2).heap[w.heap.size]? = some o1 ∧ ((w.alloc o1).alloc o2).heap[w.heap.size + 1]? = some o2 := by
  have s1 := World.size_alloc w o1
  refine ⟨((Below.refl _ _).alloc (Nat.le_refl _) _).alloc (by omega) _, ?_, ?_⟩
  · rw [((Below.refl (w.alloc o1).heap.size _).alloc (Nat.le_refl _) o2).block w.heap.size (by omega)]; exact heap_alloc_new _ _
  · rw [← s1]; exact heap_alloc_new _ _
theorem BoxV.cell {w W : World} {vs : Array Value} {T : Nat} (h : BoxV w W vs T) (i : Nat) (v : Value) (hv : vs[i]? = some v) : W.cell? ⟨w.heap.size, i, none⟩ = some v := cell_of_row _ _ _ _ _ _ h.2.2 |>.trans hv
theorem lt_cell {w : World} {b i : Nat} {v : Value} (h : w.cell? ⟨b, i, none⟩ = some v) : b < w.heap.size := by
  rcases Nat.lt_or_ge b w.heap.size with h' | h'
  · exact h'
  · simp [World.cell?, Array.getElem?_eq_none h'] at h

/-- A piece is valid, wherever it begins. -/
def vp (o : PieceM) : Prop := o.f0 < o.f1 ∧ (0 ≤ o.f2 ∧ o.f2 ≤ 1000000000) ∧ (1 ≤ o.f3 ∧ o.f3 ≤ 1000000) ∧ ¬ (o.f4 = true ∧ o.f5 = true)
instance (o : PieceM) : Decidable (vp o) := by unfold vp; infer_instance
/-- Where valid pieces end that begin one at the other's end, the first one at a; nowhere if they don't. -/
def chk : Int → List PieceM → Option Int
  | a, [] => some a
  | a, o :: os => if o.f0 = a ∧ vp o then chk o.f1 os else none
/-- A board is valid. -/
def bOK (u x : Int) (os : List PieceM) : Prop := 0 ≤ u ∧ x ≤ 1099511627776 ∧ os.length ≤ 4096 ∧ chk u os = some x
instance (u x : Int) (os : List PieceM) : Decidable (bOK u x os) := by unfold bOK; infer_instance
def bokB (u x : Int) (os : List PieceM) : Bool := decide (bOK u x os)
theorem bokB_yes {u x : Int} {os : List PieceM} (h : bOK u x os) : bokB u x os = true := decide_eq_true h
theorem bokB_no {u x : Int} {os : List PieceM} (h : ¬ bOK u x os) : bokB u x os = false := decide_eq_false h
theorem chk_cons {a : Int} {o : PieceM} {os : List PieceM} (h0 : o.f0 = a) (hv : vp o) : chk a (o :: os) = chk o.f1 os := if_pos ⟨h0, hv⟩
theorem chk_ill {a : Int} {o : PieceM} {os : List PieceM} (h : ¬ (o.f0 = a ∧ vp o)) : chk a (o :: os) = none := if_neg h
theorem chk_le : ∀ (os : List PieceM) (a x : Int), chk a os = some x → a ≤ x
  | [], a, x, h => by cases h; exact Int.le_refl _
  | o :: os, a, x, h => by
    unfold chk at h
    split at h
    · rename_i hh
      have := chk_le os _ _ h
      have := hh.2.1
      omega
    · cases h
theorem chk_mem : ∀ (os : List PieceM) (a x : Int), chk a os = some x → ∀ o ∈ os, a ≤ o.f0 ∧ o.f1 ≤ x ∧ vp o
  | [], _, _, _, o, ho => by cases ho
  | p :: os, a, x, h, o, ho => by
    unfold chk at h
    split at h
    · rename_i hh
      have hl := chk_le os _ _ h
      have hv := hh.2.1
      rcases List.mem_cons.1 ho with rfl | ho
      · exact ⟨by omega, hl, hh.2⟩
      · have := chk_mem os _ _ h o ho
        exact ⟨by omega, this.2⟩
    · cases h
theorem chk_drop {os : List PieceM} {i : Nat} (h : i < os.length) : os.drop i = os[i] :: os.drop (i + 1) := List.drop_eq_getElem_cons h
/-- The six cells of a piece of a row that came in. -/
theorem piece_cells {w : World} {a : Option Addr} {os : List PieceM} (h : ArrP w a (os.flatMap valPiece)) {i : Nat} (hi : i < os.length) : ∃ b off, a = some ⟨b, off, none⟩ ∧ b < w.heap.size ∧ w.cell? ⟨b, off + i * 6, none⟩ = some (.int .i64 os[i].f0) ∧ w.cell? ⟨b, off + i * 6 + 1, none⟩ = some (.int .i64 os[i].f1) ∧ w.cell? ⟨b, off + i * 6 + 2, none⟩ = some (.int .i64 os[i].f2) ∧ w.cell? ⟨b, off + i * 6 + 3, none⟩ = some (.int .i64 os[i].f3) ∧ w.cell? ⟨b, off + i * 6 + 4, none⟩ = some (.bool os[i].f4) ∧ w.cell? ⟨b, off + i * 6 + 5, none⟩ = some (.bool os[i].f5) := by
  have hl : (os.flatMap valPiece).length = os.length * 6 := vlen valPiece 6 valPiece_len os
  obtain ⟨b, off, rfl, hb, h0⟩ := h (i * 6) (by omega)
  refine ⟨b, off, rfl, hb, h0.trans (Piece_val0 os i hi), ?_, ?_, ?_, ?_, ?_⟩
  · obtain ⟨b', o', e, _, c⟩ := h (i * 6 + 1) (by omega); cases e; exact c.trans (Piece_val1 os i hi)
  · obtain ⟨b', o', e, _, c⟩ := h (i * 6 + 2) (by omega); cases e; exact c.trans (Piece_val2 os i hi)
  · obtain ⟨b', o', e, _, c⟩ := h (i * 6 + 3) (by omega); cases e; exact c.trans (Piece_val3 os i hi)
  · obtain ⟨b', o', e, _, c⟩ := h (i * 6 + 4) (by omega); cases e; exact c.trans (Piece_val4 os i hi)
  · obtain ⟨b', o', e, _, c⟩ := h (i * 6 + 5) (by omega); cases e; exact c.trans (Piece_val5 os i hi)
abbrev pcV (o : PieceM) : Value := .agg #[.int .i64 o.f0, .int .i64 o.f1, .int .i64 o.f2, .int .i64 o.f3, .bool o.f4, .bool o.f5]
theorem isTime_walk (n : Int) (w : World) : Calls Try.prog 27 #[.int .i64 n] w fun e w' => e = .returned (.bool (inB n 0 1000000000)) ∧ w' = w := by
  by_cases h : 0 ≤ n ∧ n ≤ 1000000000
  · rw [inB_iff.2 h]
    obtain ⟨h1, h2⟩ := h
    go_enter Try.func27, Try.ntmps27
    go_wp2
    go_ret
    exact ⟨rfl, rfl⟩
  · rw [show inB n 0 1000000000 = false from decide_eq_false h]
    by_cases h1 : 0 ≤ n
    · have h2 : ¬ n ≤ 1000000000 := fun h2 => h ⟨h1, h2⟩
      clear h
      go_enter Try.func27, Try.ntmps27
      go_wp2
      go_ret
      exact ⟨rfl, rfl⟩
    · clear h
      go_enter Try.func27, Try.ntmps27
      go_wp2
      go_ret
      exact ⟨rfl, rfl⟩
def vpB (o : PieceM) : Bool := decide (vp o)
end Go.Proofs.Ytfffkgladjphoaa
