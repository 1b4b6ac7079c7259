/-
Contracts of functions of this seat.
-/
import Derived.Test.YtednldijgijheaaRows
import Derived.WalkKit
import Derived.ProofKit
import Derived.OpenShut
import Derived.Test.YtednldijgijheaaRpk
import Derived.Test.YtednldijgijheaaIpe
namespace Go.Proofs.Ytednldijgijheaa
open Go.ChangeShapes Go.WideShapes Go.ChangeAt Go.RowKit
set_option linter.unusedVariables false
set_option maxRecDepth 100000
theorem apart_own {w1 w2 : World} {B C : Nat} {v u : Value} {xs ys : List Int} (h : OwnB w1 B v xs) (k : OwnB w2 C u ys) (hC : w1.heap.size ≤ C) : ∀ b, v.ownBlock = some b → u.ownBlock ≠ some b := fun b e e' => by
  have h1 := (h.1.lt b e).2
  have h2 := (k.1.lt b e').1
  omega
theorem cellsQ {w : World} {g t : Nat} {u0 u1 u2 u3 u4 u5 u6 u7 u8 u9 u10 : Value} (hh : w.heap[g]? = some (.cells #[u0, u1, u2, u3, u4, u5, u6, u7, u8, u9, u10] t)) : w.cell? ⟨g, 0, none⟩ = some u0 ∧ w.cell? ⟨g, 1, none⟩ = some u1 ∧ w.cell? ⟨g, 2, none⟩ = some u2 ∧ w.cell? ⟨g, 3, none⟩ = some u3 ∧ w.cell? ⟨g, 4, none⟩ = some u4 ∧ w.cell? ⟨g, 5, none⟩ = some u5 ∧ w.cell? ⟨g, 6, none⟩ = some u6 ∧ w.cell? ⟨g, 7, none⟩ = some u7 ∧ w.cell? ⟨g, 8, none⟩ = some u8 ∧ w.cell? ⟨g, 9, none⟩ = some u9 ∧ w.cell? ⟨g, 10, none⟩ = some u10 ∧ ∀ o, w.frozen? ⟨g, o, none⟩ = false :=
  ⟨cell_of_row w g 0 _ _ _ hh, cell_of_row w g 1 _ _ _ hh, cell_of_row w g 2 _ _ _ hh, cell_of_row w g 3 _ _ _ hh, cell_of_row w g 4 _ _ _ hh, cell_of_row w g 5 _ _ _ hh, cell_of_row w g 6 _ _ _ hh, cell_of_row w g 7 _ _ _ hh, cell_of_row w g 8 _ _ _ hh, cell_of_row w g 9 _ _ _ hh, cell_of_row w g 10 _ _ _ hh, fun o => frozen_of_row w g o _ _ hh⟩
abbrev pkObj (x0 x1 : Int) (x2 x3 : Bool) (x4 x5 x6 x7 x8 : Int) (v0 v1 : Value) : Obj := .cells #[.int .i64 x0, .int .i64 x1, .bool x2, .bool x3, .int .i64 x4, .int .i64 x5, .int .i64 x6, .int .i64 x7, .int .i64 x8, v0, v1] 29
theorem below_set_new {w w1 : World} {R : Nat} (h : Below w.heap.size w w1) (hR : w.heap.size ≤ R) (i : Nat) (u : Value) : Below w.heap.size w (w1.setCell ⟨R, i, none⟩ u) :=
  ⟨h.os, h.tape, h.output, by simpa using h.size, fun k hk => (heap_setCell_other w1 ⟨R, i, none⟩ k u (fun e => by simp at e; omega)).trans (h.block k hk)⟩
theorem below_11n {w w1 : World} {R : Nat} {u0 u1 u2 u3 u4 u5 u6 u7 u8 u9 u10 : Value} (h : Below w.heap.size w w1) (hR : w.heap.size ≤ R) : Below w.heap.size w (((((((((((w1.setCell ⟨R, 0, none⟩ u0).setCell ⟨R, 1, none⟩ u1).setCell ⟨R, 2, none⟩ u2).setCell ⟨R, 3, none⟩ u3).setCell ⟨R, 4, none⟩ u4).setCell ⟨R, 5, none⟩ u5).setCell ⟨R, 6, none⟩ u6).setCell ⟨R, 7, none⟩ u7).setCell ⟨R, 8, none⟩ u8).setCell ⟨R, 9, none⟩ u9).setCell ⟨R, 10, none⟩ u10) :=
  below_set_new (below_set_new (below_set_new (below_set_new (below_set_new (below_set_new (below_set_new (below_set_new (below_set_new (below_set_new (below_set_new h hR 0 u0) hR 1 u1) hR 2 u2) hR 3 u3) hR 4 u4) hR 5 u5) hR 6 u6) hR 7 u7) hR 8 u8) hR 9 u9) hR 10 u10
theorem ownb_11n {w1 : World} {B R : Nat} {v u0 u1 u2 u3 u4 u5 u6 u7 u8 u9 u10 : Value} {zs : List Int} (h : OwnB w1 B v zs) (hR : R < B) : OwnB (((((((((((w1.setCell ⟨R, 0, none⟩ u0).setCell ⟨R, 1, none⟩ u1).setCell ⟨R, 2, none⟩ u2).setCell ⟨R, 3, none⟩ u3).setCell ⟨R, 4, none⟩ u4).setCell ⟨R, 5, none⟩ u5).setCell ⟨R, 6, none⟩ u6).setCell ⟨R, 7, none⟩ u7).setCell ⟨R, 8, none⟩ u8).setCell ⟨R, 9, none⟩ u9).setCell ⟨R, 10, none⟩ u10) B v zs :=
  (((((((((((h.setBelow (a := ⟨R, 0, none⟩) hR u0).setBelow (a := ⟨R, 1, none⟩) hR u1).setBelow (a := ⟨R, 2, none⟩) hR u2).setBelow (a := ⟨R, 3, none⟩) hR u3).setBelow (a := ⟨R, 4, none⟩) hR u4).setBelow (a := ⟨R, 5, none⟩) hR u5).setBelow (a := ⟨R, 6, none⟩) hR u6).setBelow (a := ⟨R, 7, none⟩) hR u7).setBelow (a := ⟨R, 8, none⟩) hR u8).setBelow (a := ⟨R, 9, none⟩) hR u9).setBelow (a := ⟨R, 10, none⟩) hR u10)
/-- The packet's box and the result's. -/
def PkR (w W : World) (x0 x1 : Int) (x2 x3 : Bool) (x4 x5 x6 x7 x8 : Int) (v0 v1 : Value) : Prop := Below w.heap.size w W ∧ W.heap[w.heap.size]? = some (pkObj x0 x1 x2 x3 x4 x5 x6 x7 x8 v0 v1) ∧ W.heap[w.heap.size + 1]? = some (pkObj 0 0 false false 0 0 0 0 0 (.slice none 0 0) (.slice none 0 0)) ∧ w.heap.size + 2 ≤ W.heap.size
theorem PkR.next {w W W' : World} {x0 x1 : Int} {x2 x3 : Bool} {x4 x5 x6 x7 x8 : Int} {v0 v1 : Value} (h : PkR w W x0 x1 x2 x3 x4 x5 x6 x7 x8 v0 v1) (hb : Below W.heap.size W W') : PkR w W' x0 x1 x2 x3 x4 x5 x6 x7 x8 v0 v1 :=
  ⟨h.1.trans (hb.mono h.1.size), (hb.block _ (by have := h.2.2.2; omega)).trans h.2.1, (hb.block _ (by have := h.2.2.2; omega)).trans h.2.2.1, Nat.le_trans h.2.2.2 hb.size⟩
theorem PkR.set9 {w W : World} {x0 x1 : Int} {x2 x3 : Bool} {x4 x5 x6 x7 x8 : Int} {v0 v1 : Value} (h : PkR w W x0 x1 x2 x3 x4 x5 x6 x7 x8 v0 v1) (u : Value) : PkR w (W.setCell ⟨w.heap.size, 9, none⟩ u) x0 x1 x2 x3 x4 x5 x6 x7 x8 u v1 :=
  ⟨below_set_new h.1 (Nat.le_refl _) 9 u, heap_setCell_same W _ 9 _ _ u h.2.1, (heap_setCell_other W ⟨w.heap.size, 9, none⟩ _ u (by simp)).trans h.2.2.1, by simpa using h.2.2.2⟩
theorem PkR.set10 {w W : World} {x0 x1 : Int} {x2 x3 : Bool} {x4 x5 x6 x7 x8 : Int} {v0 v1 : Value} (h : PkR w W x0 x1 x2 x3 x4 x5 x6 x7 x8 v0 v1) (u : Value) : PkR w (W.setCell ⟨w.heap.size, 10, none⟩ u) x0 x1 x2 x3 x4 x5 x6 x7 x8 v0 u :=
  ⟨below_set_new h.1 (Nat.le_refl _) 10 u, heap_setCell_same W _ 10 _ _ u h.2.1, (heap_setCell_other W ⟨w.heap.size, 10, none⟩ _ u (by simp)).trans h.2.2.1, by simpa using h.2.2.2⟩
theorem PkR.start (w : World) (x0 x1 : Int) (x2 x3 : Bool) (x4 x5 x6 x7 x8 : Int) (v0 v1 : Value) : PkR w ((w.alloc (pkObj x0 x1 x2 x3 x4 x5 x6 x7 x8 v0 v1)).alloc (pkObj 0 0 false false 0 0 0 0 0 (.slice none 0 0) (.slice none 0 0))) x0 x1 x2 x3 x4 x5 x6 x7 x8 v0 v1 := by
  have s1 := World.size_alloc w (pkObj x0 x1 x2 x3 x4 x5 x6 x7 x8 v0 v1)
  have s2 := World.size_alloc (w.alloc (pkObj x0 x1 x2 x3 x4 x5 x6 x7 x8 v0 v1)) (pkObj 0 0 false false 0 0 0 0 0 (.slice none 0 0) (.slice none 0 0))
  refine ⟨((Below.refl _ _).alloc (Nat.le_refl _) _).alloc (by omega) _, ?_, ?_, by omega⟩
  · rw [Below.heap_alloc _ _ _ (by omega)]; exact heap_alloc_new w _
  · rw [← s1]; exact heap_alloc_new _ _
set_option maxHeartbeats 4000000 in
theorem l06Copy_walk (x0 x1 : Int) (x2 x3 : Bool) (x4 x5 x6 x7 x8 : Int) (a0 : Option Addr) (n0 c0 : Nat) (a1 : Option Addr) (n1 c1 : Nat) (z0 z1 : List Int) (w : World) (h0n : z0.length = n0) (h0a : Arr w a0 z0) (m0 : n0 ≤ 1048576) (h1n : z1.length = n1) (h1a : Arr w a1 z1) (m1 : n1 ≤ 1048576) :
    Calls Try.prog 16 #[.agg #[.int .i64 x0, .int .i64 x1, .bool x2, .bool x3, .int .i64 x4, .int .i64 x5, .int .i64 x6, .int .i64 x7, .int .i64 x8, .slice a0 n0 c0, .slice a1 n1 c1]] w fun e w' => ∃ v0 v1 : Value, e = .returned (.agg #[.int .i64 x0, .int .i64 x1, .bool x2, .bool x3, .int .i64 x4, .int .i64 x5, .int .i64 x6, .int .i64 x7, .int .i64 x8, v0, v1]) ∧ OwnB w' (w.heap.size + 2) v0 z0 ∧ OwnB w' (w.heap.size + 2) v1 z1 ∧ (∀ b, v0.ownBlock = some b → v1.ownBlock ≠ some b) ∧ Below w.heap.size w w' := by
  have HI := hide (PkR.start w x0 x1 x2 x3 x4 x5 x6 x7 x8 (.slice a0 n0 c0) (.slice a1 n1 c1))
  have C0 := hide (fun W (hb : Below w.heap.size w W) => l01Copy_walk a0 n0 c0 z0 W h0n (h0a.below hb (Nat.le_refl _)) (by omega))
  have C1 := hide (fun W (hb : Below w.heap.size w W) => l01Copy_walk a1 n1 c1 z1 W h1n (h1a.below hb (Nat.le_refl _)) (by omega))
  clear h0n h0a h1n h1a
  obtain ⟨p0, p1, p2, p3, p4, p5, p6, p7, p8, p9, p10, pf⟩ := cellsQ HI.out.2.1
  go_enter Try.func16, Try.ntmps16
  go_wp2_with fail
  generalize (w.alloc (pkObj x0 x1 x2 x3 x4 x5 x6 x7 x8 (.slice a0 n0 c0) (.slice a1 n1 c1))).alloc (pkObj 0 0 false false 0 0 0 0 0 (.slice none 0 0) (.slice none 0 0)) = W at *
  refine (C0.out W HI.out.1).mono ?_
  rintro e w1 ⟨v0, rfl, hO0, hb1⟩
  have HI1 := hide (HI.out.next hb1)
  have HO0 := hide (hO0.mono HI.out.2.2.2)
  have hz0 := hO0.1.lt
  obtain ⟨b0, d0, rfl, _⟩ := own_slice HO0.out
  clear p0 p1 p2 p3 p4 p5 p6 p7 p8 p9 p10 pf hO0 hb1 HI
  obtain ⟨p0, p1, p2, p3, p4, p5, p6, p7, p8, p9, p10, pf⟩ := cellsQ HI1.out.2.1
  have HI2 := hide (HI1.out.set9 (.slice b0 z0.length d0))
  have HO1 := hide (HO0.out.setBelow (a := ⟨w.heap.size, 9, none⟩) (by show w.heap.size < w.heap.size + 2; omega) (.slice b0 z0.length d0))
  clear HI1 HO0
  go_wp2_with fail
  generalize hV : w1.setCell ⟨w.heap.size, 9, none⟩ (.slice b0 z0.length d0) = V at *
  clear hV p0 p1 p2 p3 p4 p5 p6 p7 p8 p9 p10 pf
  refine (C1.out V HI2.out.1).mono ?_
  rintro e w2 ⟨v1, rfl, hO2, hb2⟩
  have HAP := hide (apart_own HO1.out hO2 (Nat.le_refl _))
  have HI3 := hide (HI2.out.next hb2)
  have HO3 := hide (HO1.out.next hb2)
  have HO4 := hide (hO2.mono HI2.out.2.2.2)
  obtain ⟨b1, d1, rfl, _⟩ := own_slice HO4.out
  clear hO2 hb2 HI2 HO1 hz0
  obtain ⟨p0, p1, p2, p3, p4, p5, p6, p7, p8, p9, p10, pf⟩ := cellsQ HI3.out.2.1
  obtain ⟨d0', d1', d2, d3, d4, d5, d6, d7, d8, d9, d10, df⟩ := cellsQ HI3.out.2.2.1
  have HI4 := hide (HI3.out.set10 (.slice b1 z1.length d1))
  have HO5 := hide (HO3.out.setBelow (a := ⟨w.heap.size, 10, none⟩) (by show w.heap.size < w.heap.size + 2; omega) (.slice b1 z1.length d1))
  have HO6 := hide (HO4.out.setBelow (a := ⟨w.heap.size, 10, none⟩) (by show w.heap.size < w.heap.size + 2; omega) (.slice b1 z1.length d1))
  clear HI3 HO3 HO4
  go_wp2_with fail
  exact bodyPost_ret (v := .agg #[.int .i64 x0, .int .i64 x1, .bool x2, .bool x3, .int .i64 x4, .int .i64 x5, .int .i64 x6, .int .i64 x7, .int .i64 x8, .slice b0 z0.length d0, .slice b1 z1.length d1]) (by simp [results, Try.results16, go_sem, d0', d1', d2, d3, d4, d5, d6, d7, d8, d9, d10]) rfl ⟨_, _, rfl, ownb_11n HO5.out (by omega), ownb_11n HO6.out (by omega), HAP.out, below_11n HI4.out.1 (by omega)⟩
end Go.Proofs.Ytednldijgijheaa
