/-
Contracts of functions of this seat.
-/
import Derived.Test.YtcnfnimgpiaamaaDoorRows
import Derived.WalkKit
import Derived.ProofKit
import Derived.OpenShut
import Derived.Test.YtcnfnimgpiaamaaDoorGv8
namespace Go.Proofs.YtcnfnimgpiaamaaDoor
open Go.ChangeShapes Go.WideShapes Go.ChangeAt Go.RowKit
set_option linter.unusedVariables false
set_option maxRecDepth 100000
theorem HoldV.kept {w w' : World} {H T : Nat} {vs : Array Value} {row : Option Nat} (h : HoldV w H vs T) (hg : w.grownBy w' row) (hne : some H ≠ row) : HoldV w' H vs T := (hg.block H h.lt hne).trans h
theorem HoldV.set {w : World} {H T : Nat} {vs : Array Value} (h : HoldV w H vs T) (i : Nat) (y : Value) : HoldV (w.setCell ⟨H, i, none⟩ y) H (vs.setIfInBounds i y) T := heap_setCell_same w H i _ _ y h
/-- The result's box and the cursor's. -/
def DS0 (w W : World) (zr : Array Value) (T : Nat) (bv : Value) (p : Nat) (ev : Value) : Prop :=
  Below w.heap.size w W ∧ HoldV W w.heap.size zr T ∧ Cur W (w.heap.size + 1) bv p ev
theorem DS0.start (w : World) (zr : Array Value) (T : Nat) (bv : Value) : DS0 w ((w.alloc (.cells zr T)).alloc (.cells #[bv, .int .i64 0, .nilIface] 69)) zr T bv 0 .nilIface := by
  obtain ⟨h1, h2, h3⟩ := two_allocs w (.cells zr T) (.cells #[bv, .int .i64 0, .nilIface] 69)
  exact ⟨h1, h2, h3⟩
theorem DS0.next {w W W' : World} {zr : Array Value} {T p : Nat} {bv ev : Value} (h : DS0 w W zr T bv p ev) (hb : Below W.heap.size W W') : DS0 w W' zr T bv p ev :=
  ⟨h.1.trans (hb.mono h.1.size), h.2.1.next hb, h.2.2.below hb h.2.2.lt⟩
theorem DS0.moved {w W W' : World} {zr : Array Value} {T p p' : Nat} {bv bv' ev ev' : Value} (h : DS0 w W zr T bv p ev) (hg : W.grownBy W' (some (w.heap.size + 1))) (hc : Cur W' (w.heap.size + 1) bv' p' ev') : DS0 w W' zr T bv' p' ev' :=
  ⟨h.1.trans (grown_under hg (Nat.le_succ _) h.1.size), h.2.1.kept hg (by intro e; injection e with e; omega), hc⟩
/-- The result's box, the cursor's, and that of what is read. -/
def DS1 (w W : World) (zr : Array Value) (T : Nat) (bv : Value) (p : Nat) (ev : Value) (F : Nat) (vs : Array Value) (U : Nat) : Prop :=
  DS0 w W zr T bv p ev ∧ HoldV W F vs U ∧ w.heap.size + 1 < F
theorem DS1.start {w W : World} {zr : Array Value} {T p : Nat} {bv ev : Value} (h : DS0 w W zr T bv p ev) (vs : Array Value) (U : Nat) : DS1 w (W.alloc (.cells vs U)) zr T bv p ev W.heap.size vs U :=
  ⟨h.next ((Below.refl _ _).alloc (Nat.le_refl _) _), heap_alloc_new _ _, h.2.2.lt⟩
theorem DS1.next {w W W' : World} {zr vs : Array Value} {T U F p : Nat} {bv ev : Value} (h : DS1 w W zr T bv p ev F vs U) (hb : Below W.heap.size W W') : DS1 w W' zr T bv p ev F vs U :=
  ⟨h.1.next hb, h.2.1.next hb, h.2.2⟩
theorem DS1.moved {w W W' : World} {zr vs : Array Value} {T U F p p' : Nat} {bv bv' ev ev' : Value} (h : DS1 w W zr T bv p ev F vs U) (hg : W.grownBy W' (some (w.heap.size + 1))) (hc : Cur W' (w.heap.size + 1) bv' p' ev') : DS1 w W' zr T bv' p' ev' F vs U :=
  ⟨h.1.moved hg hc, h.2.1.kept hg (by have := h.2.2; intro e; cases e; omega), h.2.2⟩
theorem DS1.set {w W : World} {zr vs : Array Value} {T U F p : Nat} {bv ev : Value} (h : DS1 w W zr T bv p ev F vs U) (i : Nat) (y : Value) : DS1 w (W.setCell ⟨F, i, none⟩ y) zr T bv p ev F (vs.setIfInBounds i y) U := by
  obtain ⟨⟨h1, h2, h3⟩, h4, h5⟩ := h
  have hg := grown_cell W F i y
  exact ⟨⟨h1.trans (grown_under hg (by omega) h1.size), h2.kept hg (by intro e; cases e; omega), h3.kept hg (by intro e; cases e; omega)⟩, h4.set i y, h5⟩
theorem DS1.drewN {w W : World} {zr vs : Array Value} {T U F p : Nat} {bv ev : Value} (h : DS1 w W zr T bv p ev F vs U) (m : Nat) : DS1 w (W.drewN m) zr T bv p ev F vs U := h.next (below_drewN (Below.refl _ _) m)
theorem DS1.drew {w W : World} {zr vs : Array Value} {T U F p : Nat} {bv ev : Value} (h : DS1 w W zr T bv p ev F vs U) : DS1 w W.drew zr T bv p ev F vs U := h.next ((Below.refl _ _).drew)
end Go.Proofs.YtcnfnimgpiaamaaDoor
