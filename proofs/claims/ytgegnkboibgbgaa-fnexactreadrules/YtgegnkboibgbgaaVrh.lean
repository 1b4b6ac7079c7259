/-
Contracts of functions of this seat.
-/
import Derived.Test.YtgegnkboibgbgaaRows
import Derived.WalkKit
import Derived.ProofKit
import Derived.OpenShut
import Derived.Test.YtgegnkboibgbgaaRlx
import Derived.Test.YtgegnkboibgbgaaRvi
namespace Go.Proofs.Ytgegnkboibgbgaa
open Go.ChangeShapes Go.WideShapes Go.ChangeAt Go.RowKit
set_option linter.unusedVariables false
set_option maxRecDepth 100000
abbrev BoxR (w0 w : World) (A D P sa sb sl sh da db dl dh S : Int) : Prop := Below w0.heap.size w0 w ∧ w0.heap.size < w.heap.size ∧ w.cell? ⟨w0.heap.size, 0, none⟩ = some (.int .i64 A) ∧ w.cell? ⟨w0.heap.size, 1, none⟩ = some (.int .i64 D) ∧ w.cell? ⟨w0.heap.size, 2, none⟩ = some (.int .i64 P) ∧ w.cell? ⟨w0.heap.size, 3, none⟩ = some (.int .i64 sa) ∧ w.cell? ⟨w0.heap.size, 4, none⟩ = some (.int .i64 sb) ∧ w.cell? ⟨w0.heap.size, 5, none⟩ = some (.int .i64 sl) ∧ w.cell? ⟨w0.heap.size, 6, none⟩ = some (.int .i64 sh) ∧ w.cell? ⟨w0.heap.size, 7, none⟩ = some (.int .i64 da) ∧ w.cell? ⟨w0.heap.size, 8, none⟩ = some (.int .i64 db) ∧ w.cell? ⟨w0.heap.size, 9, none⟩ = some (.int .i64 dl) ∧ w.cell? ⟨w0.heap.size, 10, none⟩ = some (.int .i64 dh) ∧ w.cell? ⟨w0.heap.size, 11, none⟩ = some (.int .i64 S)
theorem BoxR.start (w0 : World) (A D P sa sb sl sh da db dl dh S : Int) (ty : Nat) : BoxR w0 (w0.alloc (.cells #[.int .i64 A, .int .i64 D, .int .i64 P, .int .i64 sa, .int .i64 sb, .int .i64 sl, .int .i64 sh, .int .i64 da, .int .i64 db, .int .i64 dl, .int .i64 dh, .int .i64 S] ty)) A D P sa sb sl sh da db dl dh S := by
  have h := BoxV.start w0 #[.int .i64 A, .int .i64 D, .int .i64 P, .int .i64 sa, .int .i64 sb, .int .i64 sl, .int .i64 sh, .int .i64 da, .int .i64 db, .int .i64 dl, .int .i64 dh, .int .i64 S] ty
  exact ⟨h.1, h.2.1, h.cell 0 _ rfl, h.cell 1 _ rfl, h.cell 2 _ rfl, h.cell 3 _ rfl, h.cell 4 _ rfl, h.cell 5 _ rfl, h.cell 6 _ rfl, h.cell 7 _ rfl, h.cell 8 _ rfl, h.cell 9 _ rfl, h.cell 10 _ rfl, h.cell 11 _ rfl⟩
theorem BoxR.next {w0 w w' : World} {A D P sa sb sl sh da db dl dh S : Int} (h : BoxR w0 w A D P sa sb sl sh da db dl dh S) (hb : Below w.heap.size w w') : BoxR w0 w' A D P sa sb sl sh da db dl dh S := by
  obtain ⟨h1, h2, c0, c1, c2, c3, c4, c5, c6, c7, c8, c9, c10, c11⟩ := h
  exact ⟨h1.trans (hb.mono (Nat.le_of_lt h2)), Nat.lt_of_lt_of_le h2 hb.size, (hb.cell (p := ⟨w0.heap.size, 0, none⟩) h2).trans c0, (hb.cell (p := ⟨w0.heap.size, 1, none⟩) h2).trans c1, (hb.cell (p := ⟨w0.heap.size, 2, none⟩) h2).trans c2, (hb.cell (p := ⟨w0.heap.size, 3, none⟩) h2).trans c3, (hb.cell (p := ⟨w0.heap.size, 4, none⟩) h2).trans c4, (hb.cell (p := ⟨w0.heap.size, 5, none⟩) h2).trans c5, (hb.cell (p := ⟨w0.heap.size, 6, none⟩) h2).trans c6, (hb.cell (p := ⟨w0.heap.size, 7, none⟩) h2).trans c7, (hb.cell (p := ⟨w0.heap.size, 8, none⟩) h2).trans c8, (hb.cell (p := ⟨w0.heap.size, 9, none⟩) h2).trans c9, (hb.cell (p := ⟨w0.heap.size, 10, none⟩) h2).trans c10, (hb.cell (p := ⟨w0.heap.size, 11, none⟩) h2).trans c11⟩
theorem BoxR.drew {w0 w : World} {A D P sa sb sl sh da db dl dh S : Int} (h : BoxR w0 w A D P sa sb sl sh da db dl dh S) : BoxR w0 w.drew A D P sa sb sl sh da db dl dh S := h.next ((Below.refl _ _).drew)
end Go.Proofs.Ytgegnkboibgbgaa
