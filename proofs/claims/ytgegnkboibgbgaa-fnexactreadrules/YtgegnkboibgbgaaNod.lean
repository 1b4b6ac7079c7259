/-
Contracts of functions of this seat.
-/
import Derived.Test.YtgegnkboibgbgaaRows
import Derived.WalkKit
import Derived.ProofKit
import Derived.OpenShut
import Derived.Test.YtgegnkboibgbgaaRok
namespace Go.Proofs.Ytgegnkboibgbgaa
open Go.ChangeShapes Go.WideShapes Go.ChangeAt Go.RowKit
set_option linter.unusedVariables false
set_option maxRecDepth 100000
/-- The side of a node on which an address lies. -/
def sideI (x b : Int) : Int := x * 2 ^ b.toNat / 2147483648 % 2
abbrev prT : Nat := 37
theorem HoldV.set {w : World} {H T : Nat} {vs : Array Value} (h : HoldV w H vs T) (i : Nat) (y : Value) : HoldV (w.setCell ⟨H, i, none⟩ y) H (vs.setIfInBounds i y) T := heap_setCell_same w H i _ _ y h
theorem HoldV.other {w : World} {H C T : Nat} {vs : Array Value} (h : HoldV w H vs T) (hC : H ≠ C) (i : Nat) (y : Value) : HoldV (w.setCell ⟨C, i, none⟩ y) H vs T := by
  unfold HoldV
  rw [heap_setCell_other _ ⟨C, i, none⟩ H y hC]
  exact h
theorem HoldV.drew {w : World} {H T : Nat} {vs : Array Value} (h : HoldV w H vs T) : HoldV w.drew H vs T := h
theorem HoldV.new (w : World) (vs : Array Value) (T : Nat) : HoldV (w.alloc (.cells vs T)) w.heap.size vs T := heap_alloc_new _ _
theorem hold_alloc_d {X w' : World} {vs : Array Value} {T : Nat} (hb : Below (X.alloc (.cells vs T)).drew.heap.size (X.alloc (.cells vs T)).drew w') : HoldV w' X.heap.size vs T := (hb.block _ (by show _ < (X.alloc _).heap.size; rw [World.size_alloc]; omega)).trans (heap_alloc_new _ _)
end Go.Proofs.Ytgegnkboibgbgaa
