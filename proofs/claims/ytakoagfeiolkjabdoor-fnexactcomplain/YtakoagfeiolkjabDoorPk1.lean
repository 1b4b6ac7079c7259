/-
Contracts of functions of this seat.
-/
import Derived.Test.YtakoagfeiolkjabDoorRows
import Derived.WalkKit
import Derived.ProofKit
import Derived.OpenShut
import Derived.Test.YtakoagfeiolkjabDoorLkp
import Derived.Test.YtakoagfeiolkjabDoorIpe
namespace Go.Proofs.YtakoagfeiolkjabDoor
open Go.ChangeShapes Go.WideShapes Go.ChangeAt Go.RowKit
set_option linter.unusedVariables false
set_option maxRecDepth 100000
theorem apart_own {w1 w2 : World} {B C : Nat} {v u : Value} {xs ys : List Int} (h : OwnB w1 B v xs) (k : OwnB w2 C u ys) (hC : w1.heap.size ≤ C) : ∀ b, v.ownBlock = some b → u.ownBlock ≠ some b := fun b e e' => by
  have h1 := (h.1.lt b e).2
  have h2 := (k.1.lt b e').1
  omega
theorem cellsQ {w : World} {g t : Nat} {u0 u1 u2 u3 u4 u5 u6 u7 u8 u9 u10 : Value} (hh : w.heap[g]? = some (.cells #[u0, u1, u2, u3, u4, u5, u6, u7, u8, u9, u10] t)) : w.cell? ⟨g, 0, none⟩ = some u0 ∧ w.cell? ⟨g, 1, none⟩ = some u1 ∧ w.cell? ⟨g, 2, none⟩ = some u2 ∧ w.cell? ⟨g, 3, none⟩ = some u3 ∧ w.cell? ⟨g, 4, none⟩ = some u4 ∧ w.cell? ⟨g, 5, none⟩ = some u5 ∧ w.cell? ⟨g, 6, none⟩ = some u6 ∧ w.cell? ⟨g, 7, none⟩ = some u7 ∧ w.cell? ⟨g, 8, none⟩ = some u8 ∧ w.cell? ⟨g, 9, none⟩ = some u9 ∧ w.cell? ⟨g, 10, none⟩ = some u10 ∧ ∀ o, w.frozen? ⟨g, o, none⟩ = false :=
  ⟨cell_of_row w g 0 _ _ _ hh, cell_of_row w g 1 _ _ _ hh, cell_of_row w g 2 _ _ _ hh, cell_of_row w g 3 _ _ _ hh, cell_of_row w g 4 _ _ _ hh, cell_of_row w g 5 _ _ _ hh, cell_of_row w g 6 _ _ _ hh, cell_of_row w g 7 _ _ _ hh, cell_of_row w g 8 _ _ _ hh, cell_of_row w g 9 _ _ _ hh, cell_of_row w g 10 _ _ _ hh, fun o => frozen_of_row w g o _ _ hh⟩
abbrev pkObj (x0 x1 : Int) (x2 x3 : Bool) (x4 x5 x6 x7 x8 : Int) (v0 v1 : Value) : Obj := .cells #[.int .i64 x0, .int .i64 x1, .bool x2, .bool x3, .int .i64 x4, .int .i64 x5, .int .i64 x6, .int .i64 x7, .int .i64 x8, v0, v1] 47
theorem below_set_new {w w1 : World} {R : Nat} (h : Below w.heap.size w w1) (hR : w.heap.size ≤ R) (i : Nat) (u : Value) : Below w.heap.size w (w1.setCell ⟨R, i, none⟩ u) :=
  ⟨h.os, h.tape, h.output, by simpa using h.size, fun k hk => (heap_setCell_other w1 ⟨R, i, none⟩ k u (fun e => by simp at e; omega)).trans (h.block k hk)⟩
theorem below_11n {w w1 : World} {R : Nat} {u0 u1 u2 u3 u4 u5 u6 u7 u8 u9 u10 : Value} (h : Below w.heap.size w w1) (hR : w.heap.size ≤ R) : Below w.heap.size w (((((((((((w1.setCell ⟨R, 0, none⟩ u0).setCell ⟨R, 1, none⟩ u1).setCell ⟨R, 2, none⟩ u2).setCell ⟨R, 3, none⟩ u3).setCell ⟨R, 4, none⟩ u4).setCell ⟨R, 5, none⟩ u5).setCell ⟨R, 6, none⟩ u6).setCell ⟨R, 7, none⟩ u7).setCell ⟨R, 8, none⟩ u8).setCell ⟨R, 9, none⟩ u9).setCell ⟨R, 10, none⟩ u10) :=
  below_set_new (below_set_new (below_set_new (below_set_new (below_set_new (below_set_new (below_set_new (below_set_new (below_set_new (below_set_new (below_set_new h hR 0 u0) hR 1 u1) hR 2 u2) hR 3 u3) hR 4 u4) hR 5 u5) hR 6 u6) hR 7 u7) hR 8 u8) hR 9 u9) hR 10 u10
theorem ownb_11n {w1 : World} {B R : Nat} {v u0 u1 u2 u3 u4 u5 u6 u7 u8 u9 u10 : Value} {zs : List Int} (h : OwnB w1 B v zs) (hR : R < B) : OwnB (((((((((((w1.setCell ⟨R, 0, none⟩ u0).setCell ⟨R, 1, none⟩ u1).setCell ⟨R, 2, none⟩ u2).setCell ⟨R, 3, none⟩ u3).setCell ⟨R, 4, none⟩ u4).setCell ⟨R, 5, none⟩ u5).setCell ⟨R, 6, none⟩ u6).setCell ⟨R, 7, none⟩ u7).setCell ⟨R, 8, none⟩ u8).setCell ⟨R, 9, none⟩ u9).setCell ⟨R, 10, none⟩ u10) B v zs :=
  (((((((((((h.setBelow (a := ⟨R, 0, none⟩) hR u0).setBelow (a := ⟨R, 1, none⟩) hR u1).setBelow (a := ⟨R, 2, none⟩) hR u2).setBelow (a := ⟨R, 3, none⟩) hR u3).setBelow (a := ⟨R, 4, none⟩) hR u4).setBelow (a := ⟨R, 5, none⟩) hR u5).setBelow (a := ⟨R, 6, none⟩) hR u6).setBelow (a := ⟨R, 7, none⟩) hR u7).setBelow (a := ⟨R, 8, none⟩) hR u8).setBelow (a := ⟨R, 9, none⟩) hR u9).setBelow (a := ⟨R, 10, none⟩) hR u10)
end Go.Proofs.YtakoagfeiolkjabDoor
