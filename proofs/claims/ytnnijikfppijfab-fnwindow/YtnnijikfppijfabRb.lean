/-
Contracts of functions of this seat.
-/
import Derived.Test.YtnnijikfppijfabRows
import Derived.WalkKit
import Derived.ProofKit
import Derived.OpenShut
import Derived.Deep.QuietTactic
import Derived.Below
import Derived.Deep.Cut
import Derived.Deep.RegionWith
import Derived.Lib.MinMax
namespace Go.Proofs.Ytnnijikfppijfab
open Go.ChangeShapes Go.WideShapes Go.ChangeAt Go.RowKit
set_option linter.unusedVariables false
set_option maxRecDepth 100000
theorem i64_bd {a : Int} (h : (Lit.int .i64 a).wf = true) : -9223372036854775808 ≤ a ∧ a ≤ 9223372036854775807 := by
  simpa [Lit.wf, IntKind.min, IntKind.max, IntKind.signed, IntKind.bits] using h
theorem ret_int {k : IntKind} {a b : Int} (h : a = b) : Ending.returned (.int k a) = .returned (.int k b) := by rw [h]
theorem ret_bool {a b : Bool} (h : a = b) : Ending.returned (.bool a) = .returned (.bool b) := by rw [h]
theorem hide {P : Prop} (h : P) : Hid P := h
theorem below_drewN {B : Nat} {a w : World} (h : Below B a w) (n : Nat) : Below B a (w.drewN n) := ⟨h.os, h.tape, h.output, h.size, h.block⟩
theorem below_undrew {B : Nat} {w w' : World} (h : Below B w.drew w') : Below B w w' := ⟨h.os, h.tape, h.output, h.size, h.block⟩

/-- A box laid at the world's end, and kept. -/
def BoxV (w W : World) (vs : Array Value) (T : Nat) : Prop := Below w.heap.size w W ∧ w.heap.size < W.heap.size ∧ W.heap[w.heap.size]? = some (.cells vs T)
theorem BoxV.start (w : World) (vs : Array Value) (T : Nat) : BoxV w (w.alloc (.cells vs T)) vs T :=
  ⟨(Below.refl _ _).alloc (Nat.le_refl _) _, by rw [World.size_alloc]; omega, heap_alloc_new _ _⟩
theorem BoxV.next {w W W' : World} {vs : Array Value} {T : Nat} (h : BoxV w W vs T) (hb : Below W.heap.size W W') : BoxV w W' vs T :=
  ⟨h.1.trans (hb.mono (Nat.le_of_lt h.2.1)), Nat.lt_of_lt_of_le h.2.1 hb.size, (hb.block _ h.2.1).trans h.2.2⟩
theorem BoxV.keep {w W W' : World} {vs : Array Value} {T B : Nat} (h : BoxV w W vs T) (hb : Below B W W') (hB : w.heap.size < B) : BoxV w W' vs T :=
  ⟨h.1.trans (hb.mono (Nat.le_of_lt hB)), Nat.lt_of_lt_of_le h.2.1 hb.size, (hb.block _ hB).trans h.2.2⟩
def HoldV (w : World) (H : Nat) (vs : Array Value) (T : Nat) : Prop := w.heap[H]? = some (.cells vs T)
theorem HoldV.lt {w : World} {H T : Nat} {vs : Array Value} (h : HoldV w H vs T) : H < w.heap.size := (Array.getElem?_eq_some_iff.1 h).1
theorem HoldV.below {w w' : World} {H T B : Nat} {vs : Array Value} (h : HoldV w H vs T) (hb : Below B w w') (hB : H < B) : HoldV w' H vs T := (hb.block H hB).trans h
theorem HoldV.next {w w' : World} {H T : Nat} {vs : Array Value} (h : HoldV w H vs T) (hb : Below w.heap.size w w') : HoldV w' H vs T := h.below hb h.lt
theorem HoldV.cell {w : World} {H T : Nat} {vs : Array Value} (h : HoldV w H vs T) (i : Nat) (v : Value) (hv : vs[i]? = some v) : w.cell? ⟨H, i, none⟩ = some v := (cell_of_row _ _ _ _ _ _ h).trans hv
theorem HoldV.frozen {w : World} {H T : Nat} {vs : Array Value} (h : HoldV w H vs T) (o : Nat) : w.frozen? ⟨H, o, none⟩ = false := frozen_of_row w H o _ _ h
theorem two_allocs (w : World) (o1 o2 : Obj) : Below w.heap.size w ((w.alloc o1).alloc o2) ∧ ((w.alloc o1).alloc o2).heap[w.heap.size]? = some o1 ∧ ((w.alloc o1).alloc o2).heap[w.heap.size + 1]? = some o2 := by
  have s1 := World.size_alloc w o1
  refine ⟨((Below.refl _ _).alloc (Nat.le_refl _) _).alloc (by omega) _, ?_, ?_⟩
  · rw [((Below.refl (w.alloc o1).heap.size _).alloc (Nat.le_refl _) o2).block w.heap.size (by omega)]; exact heap_alloc_new _ _
  · rw [← s1]; exact heap_alloc_new _ _
theorem BoxV.cell {w W : World} {vs : Array Value} {T : Nat} (h : BoxV w W vs T) (i : Nat) (v : Value) (hv : vs[i]? = some v) : W.cell? ⟨w.heap.size, i, none⟩ = some v := cell_of_row _ _ _ _ _ _ h.2.2 |>.trans hv
theorem lt_cell {w : World} {b i : Nat} {v : Value} (h : w.cell? ⟨b, i, none⟩ = some v) : b < w.heap.size := by
  rcases Nat.lt_or_ge b w.heap.size with h' | h'
  · exact h'
  · simp [World.cell?, Array.getElem?_eq_none h'] at h

theorem HoldV.farb {w : World} {H T : Nat} {vs : Array Value} (h : HoldV w H vs T) (X i : Nat) (y : Value) (hX : X ≠ H) : HoldV (w.setCell ⟨X, i, none⟩ y) H vs T := (heap_setCell_other w ⟨X, i, none⟩ H y (fun e => hX e.symm)).trans h
theorem HoldV.putb {w : World} {H T : Nat} {vs : Array Value} (h : HoldV w H vs T) (i : Nat) (y : Value) : HoldV (w.setCell ⟨H, i, none⟩ y) H (vs.setIfInBounds i y) T := heap_setCell_same w H i _ _ y h
/-- The argument's box and the result's, laid one behind the other at the world's end. -/
def Bx (w W : World) (vs rs : Array Value) (T : Nat) : Prop := Below w.heap.size w W ∧ HoldV W w.heap.size vs T ∧ HoldV W (w.heap.size + 1) rs T
theorem Bx.start (w : World) (vs rs : Array Value) (T : Nat) : Bx w ((w.alloc (.cells vs T)).alloc (.cells rs T)) vs rs T := two_allocs w _ _
theorem Bx.next {w W W' : World} {vs rs : Array Value} {T : Nat} (h : Bx w W vs rs T) (hb : Below W.heap.size W W') : Bx w W' vs rs T := ⟨h.1.trans (hb.mono h.1.size), h.2.1.next hb, h.2.2.next hb⟩
theorem Bx.drew {w W : World} {vs rs : Array Value} {T : Nat} (h : Bx w W vs rs T) : Bx w W.drew vs rs T := ⟨h.1.drew, h.2.1, h.2.2⟩
theorem Bx.put {w W : World} {vs rs : Array Value} {T : Nat} (h : Bx w W vs rs T) (i : Nat) (y : Value) : Bx w (W.setCell ⟨w.heap.size, i, none⟩ y) (vs.setIfInBounds i y) rs T := ⟨h.1.setCell (p := ⟨w.heap.size, i, none⟩) (Nat.le_refl _) _, h.2.1.putb i y, h.2.2.farb w.heap.size i y (by omega)⟩
theorem Bx.rput {w W : World} {vs rs : Array Value} {T : Nat} (h : Bx w W vs rs T) (i : Nat) (y : Value) : Bx w (W.setCell ⟨w.heap.size + 1, i, none⟩ y) vs (rs.setIfInBounds i y) T := ⟨h.1.setCell (p := ⟨w.heap.size + 1, i, none⟩) (Nat.le_succ _) _, h.2.1.farb (w.heap.size + 1) i y (by omega), h.2.2.putb i y⟩
theorem Bx.four {w W : World} {vs : Array Value} {T : Nat} {v0 v1 v2 v3 : Value} (h : Bx w W vs #[v0, v1, v2, v3] T) {u0 u1 u2 u3 : Value} {P : World → Prop} (k : ∀ W2, Bx w W2 vs #[u0, u1, u2, u3] T → P W2) : P ((((W.setCell ⟨w.heap.size + 1, 0, none⟩ u0).setCell ⟨w.heap.size + 1, 1, none⟩ u1).setCell ⟨w.heap.size + 1, 2, none⟩ u2).setCell ⟨w.heap.size + 1, 3, none⟩ u3) := by
  have q := (((h.rput 0 u0).rput 1 u1).rput 2 u2).rput 3 u3
  simp only [List.setIfInBounds_toArray, List.set_cons_zero, List.set_cons_succ] at q
  exact k _ q
theorem Bx.afour {w W : World} {rs : Array Value} {T : Nat} {v0 v1 v2 v3 : Value} (h : Bx w W #[v0, v1, v2, v3] rs T) {u0 u1 u2 u3 : Value} {P : World → Prop} (k : ∀ W2, Bx w W2 #[u0, u1, u2, u3] rs T → P W2) : P ((((W.setCell ⟨w.heap.size, 0, none⟩ u0).setCell ⟨w.heap.size, 1, none⟩ u1).setCell ⟨w.heap.size, 2, none⟩ u2).setCell ⟨w.heap.size, 3, none⟩ u3) := by
  have q := (((h.put 0 u0).put 1 u1).put 2 u2).put 3 u3
  simp only [List.setIfInBounds_toArray, List.set_cons_zero, List.set_cons_succ] at q
  exact k _ q
theorem Bx.lt {w W : World} {vs rs : Array Value} {T : Nat} (h : Bx w W vs rs T) : w.heap.size + 1 < W.heap.size := h.2.2.lt
/-- A callee has written into the argument's box alone. -/
theorem Bx.into {w W W' : World} {vs us rs : Array Value} {T : Nat} (h : Bx w W vs rs T) (hg : W.grownBy W' (some w.heap.size)) (hu : HoldV W' w.heap.size us T) : Bx w W' us rs T :=
  ⟨h.1.grown hg h.1.size (fun k hk => by cases hk; exact Nat.le_refl _), hu, (hg.block _ h.2.2.lt (by simp)).trans h.2.2⟩
theorem ret_four {a0 a1 a2 a3 b0 b1 b2 b3 : Value} {c d : Int} (h0 : a0 = b0) (h1 : a1 = b1) (h2 : a2 = b2) (h3 : a3 = b3) (h : c = d) : Ending.returned (.tuple #[.agg #[a0, a1, a2, a3], .int .i64 c]) = .returned (.tuple #[.agg #[b0, b1, b2, b3], .int .i64 d]) := by rw [h0, h1, h2, h3, h]
theorem i64_eq {a b : Int} (h : a = b) : Value.int .i64 a = .int .i64 b := by rw [h]
theorem BoxV.four {w W : World} {T : Nat} {v0 v1 v2 v3 : Value} (h : BoxV w W #[v0, v1, v2, v3] T) {u0 u1 u2 u3 : Value} {P : World → Prop} (k : ∀ W2, BoxV w W2 #[u0, u1, u2, u3] T → P W2) : P ((((W.setCell ⟨w.heap.size, 0, none⟩ u0).setCell ⟨w.heap.size, 1, none⟩ u1).setCell ⟨w.heap.size, 2, none⟩ u2).setCell ⟨w.heap.size, 3, none⟩ u3) := by
  have q : HoldV ((((W.setCell ⟨w.heap.size, 0, none⟩ u0).setCell ⟨w.heap.size, 1, none⟩ u1).setCell ⟨w.heap.size, 2, none⟩ u2).setCell ⟨w.heap.size, 3, none⟩ u3) w.heap.size _ T := (((HoldV.putb (show HoldV W w.heap.size #[v0, v1, v2, v3] T from h.2.2) 0 u0).putb 1 u1).putb 2 u2).putb 3 u3
  simp only [List.setIfInBounds_toArray, List.set_cons_zero, List.set_cons_succ] at q
  exact k _ ⟨((((h.1.setCell (p := ⟨w.heap.size, 0, none⟩) (Nat.le_refl _) _).setCell (p := ⟨w.heap.size, 1, none⟩) (Nat.le_refl _) _).setCell (p := ⟨w.heap.size, 2, none⟩) (Nat.le_refl _) _).setCell (p := ⟨w.heap.size, 3, none⟩) (Nat.le_refl _) _), q.lt, q⟩

theorem In_yes (n a b : Int) (w : World) (h : a ≤ n ∧ n ≤ b) :
    Calls Try.prog 31 #[.int .i64 n, .int .i64 a, .int .i64 b] w fun e w' => e = .returned (.bool true) ∧ w' = w := by
  obtain ⟨h1, h2⟩ := h
  go_enter Try.func31, Try.ntmps31
  go_wp2
  go_ret
  exact ⟨rfl, rfl⟩
theorem In_no (n a b : Int) (w : World) (h : ¬ (a ≤ n ∧ n ≤ b)) :
    Calls Try.prog 31 #[.int .i64 n, .int .i64 a, .int .i64 b] w fun e w' => e = .returned (.bool false) ∧ w' = w := by
  by_cases h1 : a ≤ n
  · have h2 : ¬ n ≤ b := fun h2 => h ⟨h1, h2⟩
    clear h
    go_enter Try.func31, Try.ntmps31
    go_wp2
    go_ret
    exact ⟨rfl, rfl⟩
  · clear h
    go_enter Try.func31, Try.ntmps31
    go_wp2
    go_ret
    exact ⟨rfl, rfl⟩

def inB (x l h : Int) : Bool := decide (l ≤ x ∧ x ≤ h)
theorem inB_iff {x l h : Int} : inB x l h = true ↔ l ≤ x ∧ x ≤ h := by unfold inB; simp
theorem In_walk (n l h : Int) (w : World) :
    Calls Try.prog 31 #[.int .i64 n, .int .i64 l, .int .i64 h] w fun e w' => e = .returned (.bool (inB n l h)) ∧ w' = w := by
  by_cases hh : l ≤ n ∧ n ≤ h
  · rw [inB_iff.2 hh]; exact In_yes n l h w hh
  · rw [show inB n l h = false by unfold inB; exact decide_eq_false hh]; exact In_no n l h w hh
end Go.Proofs.Ytnnijikfppijfab
