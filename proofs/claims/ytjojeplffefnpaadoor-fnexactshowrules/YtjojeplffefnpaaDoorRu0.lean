/-
Contracts of functions of this seat.
-/
import Derived.Test.YtjojeplffefnpaaDoorRows
import Derived.WalkKit
import Derived.ProofKit
import Derived.OpenShut
import Derived.Test.YtjojeplffefnpaaDoorPrf
namespace Go.Proofs.YtjojeplffefnpaaDoor
open Go.ChangeShapes Go.WideShapes Go.ChangeAt Go.RowKit
set_option linter.unusedVariables false
set_option maxRecDepth 100000
theorem three_alloc (w : World) (o1 o2 o3 : Obj) : Below w.heap.size w (((w.alloc o1).alloc o2).alloc o3) := by
  have s1 := World.size_alloc w o1
  have s2 := World.size_alloc (w.alloc o1) o2
  exact (((Below.refl _ _).alloc (Nat.le_refl _) _).alloc (by omega) _).alloc (by omega) _
theorem three_holds (w : World) (v1 v2 v3 : Array Value) (T1 T2 T3 : Nat) : HoldV (((w.alloc (.cells v1 T1)).alloc (.cells v2 T2)).alloc (.cells v3 T3)) w.heap.size v1 T1 ∧ HoldV (((w.alloc (.cells v1 T1)).alloc (.cells v2 T2)).alloc (.cells v3 T3)) (w.heap.size + 1) v2 T2 ∧ HoldV (((w.alloc (.cells v1 T1)).alloc (.cells v2 T2)).alloc (.cells v3 T3)) (w.heap.size + 1 + 1) v3 T3 := by
  obtain ⟨h1, h2, h3⟩ := two_allocs w (.cells v1 T1) (.cells v2 T2)
  have s1 := World.size_alloc w (.cells v1 T1)
  have s2 := World.size_alloc (w.alloc (.cells v1 T1)) (.cells v2 T2)
  have hb := (Below.refl ((w.alloc (.cells v1 T1)).alloc (.cells v2 T2)).heap.size ((w.alloc (.cells v1 T1)).alloc (.cells v2 T2))).alloc (Nat.le_refl _) (.cells v3 T3)
  refine ⟨HoldV.next (show HoldV _ w.heap.size v1 T1 from h2) hb, HoldV.next (show HoldV _ (w.heap.size + 1) v2 T2 from h3) hb, ?_⟩
  unfold HoldV
  rw [show w.heap.size + 1 + 1 = ((w.alloc (.cells v1 T1)).alloc (.cells v2 T2)).heap.size by omega]
  exact heap_alloc_new _ _
theorem eqPrefix_walk (a b : Int) (w : World) :
    Calls Tryd.prog 63 #[.agg #[.int .i64 a, .int .i64 b], .agg #[.int .i64 a, .int .i64 b]] w fun e w' => e = .returned (.bool true) ∧ Below w.heap.size w w' := by
  go_enter Tryd.func63, Tryd.ntmps63
  go_wp2
  go_ret
  exact ⟨rfl, ((Below.refl _ _).alloc (Nat.le_refl _) _).alloc (by simp) _⟩
set_option maxHeartbeats 4000000 in
theorem eqRule_walk (z0 z1 z2 z3 z4 z5 z6 z7 z8 z9 z10 z11 : Int) (w : World) :
    Calls Tryd.prog 25 #[.agg #[.int .i64 z0, .int .i64 z1, .int .i64 z2, .int .i64 z3, .int .i64 z4, .int .i64 z5, .int .i64 z6, .int .i64 z7, .int .i64 z8, .int .i64 z9, .int .i64 z10, .int .i64 z11], .agg #[.int .i64 z0, .int .i64 z1, .int .i64 z2, .int .i64 z3, .int .i64 z4, .int .i64 z5, .int .i64 z6, .int .i64 z7, .int .i64 z8, .int .i64 z9, .int .i64 z10, .int .i64 z11]] w fun e w' => e = .returned (.bool true) ∧ Below w.heap.size w w' := by
  have HB := hide (two_allocs w (.cells #[.int .i64 z0, .int .i64 z1, .int .i64 z2, .int .i64 z3, .int .i64 z4, .int .i64 z5, .int .i64 z6, .int .i64 z7, .int .i64 z8, .int .i64 z9, .int .i64 z10, .int .i64 z11] 44) (.cells #[.int .i64 z0, .int .i64 z1, .int .i64 z2, .int .i64 z3, .int .i64 z4, .int .i64 z5, .int .i64 z6, .int .i64 z7, .int .i64 z8, .int .i64 z9, .int .i64 z10, .int .i64 z11] 44))
  go_enter Tryd.func25, Tryd.ntmps25
  have HA0 : Hid (HoldV ((w.alloc (.cells #[.int .i64 z0, .int .i64 z1, .int .i64 z2, .int .i64 z3, .int .i64 z4, .int .i64 z5, .int .i64 z6, .int .i64 z7, .int .i64 z8, .int .i64 z9, .int .i64 z10, .int .i64 z11] 44)).alloc (.cells #[.int .i64 z0, .int .i64 z1, .int .i64 z2, .int .i64 z3, .int .i64 z4, .int .i64 z5, .int .i64 z6, .int .i64 z7, .int .i64 z8, .int .i64 z9, .int .i64 z10, .int .i64 z11] 44)) w.heap.size #[.int .i64 z0, .int .i64 z1, .int .i64 z2, .int .i64 z3, .int .i64 z4, .int .i64 z5, .int .i64 z6, .int .i64 z7, .int .i64 z8, .int .i64 z9, .int .i64 z10, .int .i64 z11] 44) := hide HB.out.2.1
  have HC0 : Hid (HoldV ((w.alloc (.cells #[.int .i64 z0, .int .i64 z1, .int .i64 z2, .int .i64 z3, .int .i64 z4, .int .i64 z5, .int .i64 z6, .int .i64 z7, .int .i64 z8, .int .i64 z9, .int .i64 z10, .int .i64 z11] 44)).alloc (.cells #[.int .i64 z0, .int .i64 z1, .int .i64 z2, .int .i64 z3, .int .i64 z4, .int .i64 z5, .int .i64 z6, .int .i64 z7, .int .i64 z8, .int .i64 z9, .int .i64 z10, .int .i64 z11] 44)) (w.heap.size + 1) #[.int .i64 z0, .int .i64 z1, .int .i64 z2, .int .i64 z3, .int .i64 z4, .int .i64 z5, .int .i64 z6, .int .i64 z7, .int .i64 z8, .int .i64 z9, .int .i64 z10, .int .i64 z11] 44) := hide HB.out.2.2
  have HBE0 := hide HB.out.1
  clear HB
  go_wp2_with fail
  generalize hW : (w.alloc (.cells #[.int .i64 z0, .int .i64 z1, .int .i64 z2, .int .i64 z3, .int .i64 z4, .int .i64 z5, .int .i64 z6, .int .i64 z7, .int .i64 z8, .int .i64 z9, .int .i64 z10, .int .i64 z11] 44)).alloc (.cells #[.int .i64 z0, .int .i64 z1, .int .i64 z2, .int .i64 z3, .int .i64 z4, .int .i64 z5, .int .i64 z6, .int .i64 z7, .int .i64 z8, .int .i64 z9, .int .i64 z10, .int .i64 z11] 44) = W0 at *
  clear hW
  refine (eqPrefix_walk z3 z4 W0).mono ?_
  rintro e W1 ⟨rfl, hb1⟩
  have HA1 := hide (HA0.out.next hb1)
  have HC1 := hide (HC0.out.next hb1)
  have HBE1 := hide (HBE0.out.trans (hb1.mono HBE0.out.size))
  clear hb1 HA0 HC0 HBE0
  have a0_5 := HA1.out.cell 5 _ rfl
  have a0_6 := HA1.out.cell 6 _ rfl
  have a0_7 := HA1.out.cell 7 _ rfl
  have a0_8 := HA1.out.cell 8 _ rfl
  have c0_5 := HC1.out.cell 5 _ rfl
  have c0_6 := HC1.out.cell 6 _ rfl
  have c0_7 := HC1.out.cell 7 _ rfl
  have c0_8 := HC1.out.cell 8 _ rfl
  go_wp2_with fail
  refine (eqPrefix_walk z7 z8 W1).mono ?_
  rintro e W2 ⟨rfl, hb1⟩
  have HA2 := hide (HA1.out.next hb1)
  have HC2 := hide (HC1.out.next hb1)
  have HBE2 := hide (HBE1.out.trans (hb1.mono HBE1.out.size))
  clear hb1 HA1 HC1 HBE1
  have a1_9 := HA2.out.cell 9 _ rfl
  have a1_10 := HA2.out.cell 10 _ rfl
  have a1_11 := HA2.out.cell 11 _ rfl
  have c1_9 := HC2.out.cell 9 _ rfl
  have c1_10 := HC2.out.cell 10 _ rfl
  have c1_11 := HC2.out.cell 11 _ rfl
  go_wp2_with fail
  go_ret
  exact ⟨rfl, HBE2.out⟩
theorem HoldV.set {w : World} {H T : Nat} {vs : Array Value} (h : HoldV w H vs T) (i : Nat) (y : Value) : HoldV (w.setCell ⟨H, i, none⟩ y) H (vs.setIfInBounds i y) T := heap_setCell_same w H i _ _ y h
theorem HoldV.far {w : World} {H T : Nat} {vs : Array Value} (h : HoldV w H vs T) (X i : Nat) (y : Value) (hX : X ≠ H) : HoldV (w.setCell ⟨X, i, none⟩ y) H vs T := (heap_setCell_other w ⟨X, i, none⟩ H y (fun e => hX e.symm)).trans h
set_option maxHeartbeats 8000000 in
theorem toRule_walk (z0 z1 z2 z3 z4 z5 z6 z7 z8 z9 z10 z11 : Int) (w : World) :
    Calls Tryd.prog 21 #[.agg #[.int .i64 z0, .int .i64 z1, .int .i64 z2, .int .i64 z3, .int .i64 z4, .int .i64 z5, .int .i64 z6, .int .i64 z7, .int .i64 z8, .int .i64 z9, .int .i64 z10, .int .i64 z11]] w fun e w' => e = .returned (.agg #[.int .i64 z0, .int .i64 z1, .int .i64 z2, .int .i64 z3, .int .i64 z4, .int .i64 z5, .int .i64 z6, .int .i64 z7, .int .i64 z8, .int .i64 z9, .int .i64 z10, .int .i64 z11]) ∧ Below w.heap.size w w' := by
  have H3 := hide (three_holds w #[.int .i64 z0, .int .i64 z1, .int .i64 z2, .int .i64 z3, .int .i64 z4, .int .i64 z5, .int .i64 z6, .int .i64 z7, .int .i64 z8, .int .i64 z9, .int .i64 z10, .int .i64 z11] #[.int .i64 0, .int .i64 0, .int .i64 0, .int .i64 0, .int .i64 0, .int .i64 0, .int .i64 0, .int .i64 0, .int .i64 0, .int .i64 0, .int .i64 0, .int .i64 0] #[.int .i64 z0, .int .i64 z1, .int .i64 z2, .int .i64 0, .int .i64 0, .int .i64 0, .int .i64 0, .int .i64 0, .int .i64 0, .int .i64 0, .int .i64 0, .int .i64 0] 52 44 44)
  have HB0 := hide (three_alloc w (.cells #[.int .i64 z0, .int .i64 z1, .int .i64 z2, .int .i64 z3, .int .i64 z4, .int .i64 z5, .int .i64 z6, .int .i64 z7, .int .i64 z8, .int .i64 z9, .int .i64 z10, .int .i64 z11] 52) (.cells #[.int .i64 0, .int .i64 0, .int .i64 0, .int .i64 0, .int .i64 0, .int .i64 0, .int .i64 0, .int .i64 0, .int .i64 0, .int .i64 0, .int .i64 0, .int .i64 0] 44) (.cells #[.int .i64 z0, .int .i64 z1, .int .i64 z2, .int .i64 0, .int .i64 0, .int .i64 0, .int .i64 0, .int .i64 0, .int .i64 0, .int .i64 0, .int .i64 0, .int .i64 0] 44))
  go_enter Tryd.func21, Tryd.ntmps21
  go_wp2_with fail
  generalize hW : (((w.alloc (.cells #[.int .i64 z0, .int .i64 z1, .int .i64 z2, .int .i64 z3, .int .i64 z4, .int .i64 z5, .int .i64 z6, .int .i64 z7, .int .i64 z8, .int .i64 z9, .int .i64 z10, .int .i64 z11] 52)).alloc (.cells #[.int .i64 0, .int .i64 0, .int .i64 0, .int .i64 0, .int .i64 0, .int .i64 0, .int .i64 0, .int .i64 0, .int .i64 0, .int .i64 0, .int .i64 0, .int .i64 0] 44)).alloc (.cells #[.int .i64 z0, .int .i64 z1, .int .i64 z2, .int .i64 0, .int .i64 0, .int .i64 0, .int .i64 0, .int .i64 0, .int .i64 0, .int .i64 0, .int .i64 0, .int .i64 0] 44)) = W0 at *
  clear hW
  have HA0 : Hid (HoldV W0 w.heap.size #[.int .i64 z0, .int .i64 z1, .int .i64 z2, .int .i64 z3, .int .i64 z4, .int .i64 z5, .int .i64 z6, .int .i64 z7, .int .i64 z8, .int .i64 z9, .int .i64 z10, .int .i64 z11] 52) := hide H3.out.1
  have HR0 : Hid (HoldV W0 (w.heap.size + 1) #[.int .i64 0, .int .i64 0, .int .i64 0, .int .i64 0, .int .i64 0, .int .i64 0, .int .i64 0, .int .i64 0, .int .i64 0, .int .i64 0, .int .i64 0, .int .i64 0] 44) := hide H3.out.2.1
  have HO0 : Hid (HoldV W0 (w.heap.size + 1 + 1) #[.int .i64 z0, .int .i64 z1, .int .i64 z2, .int .i64 0, .int .i64 0, .int .i64 0, .int .i64 0, .int .i64 0, .int .i64 0, .int .i64 0, .int .i64 0, .int .i64 0] 44) := hide H3.out.2.2
  clear H3
  refine (toPrefix_walk z3 z4 W0).mono ?_
  rintro e X0 ⟨rfl, hb1⟩
  have HA1 := hide (HA0.out.next hb1)
  have HR1 := hide (HR0.out.next hb1)
  have HP1 := hide (HO0.out.next hb1)
  have HC1 := hide (HB0.out.trans (hb1.mono HB0.out.size))
  clear hb1 HA0 HR0 HO0 HB0
  have of0 := HP1.out.frozen
  have a0_5 := HA1.out.cell 5 _ rfl
  have a0_6 := HA1.out.cell 6 _ rfl
  have a0_7 := HA1.out.cell 7 _ rfl
  have a0_8 := HA1.out.cell 8 _ rfl
  have o0_0 := HP1.out.cell 0 _ rfl
  have o0_1 := HP1.out.cell 1 _ rfl
  have o0_2 := HP1.out.cell 2 _ rfl
  have o0_3 := HP1.out.cell 3 _ rfl
  have o0_4 := HP1.out.cell 4 _ rfl
  have o0_5 := HP1.out.cell 5 _ rfl
  have o0_6 := HP1.out.cell 6 _ rfl
  have o0_7 := HP1.out.cell 7 _ rfl
  have o0_8 := HP1.out.cell 8 _ rfl
  have o0_9 := HP1.out.cell 9 _ rfl
  have o0_10 := HP1.out.cell 10 _ rfl
  have o0_11 := HP1.out.cell 11 _ rfl
  go_wp2_with fail
  have HO1 : Hid (HoldV ((((X0.setCell ⟨w.heap.size + 1 + 1, 3, none⟩ (.int .i64 z3)).setCell ⟨w.heap.size + 1 + 1, 4, none⟩ (.int .i64 z4)).setCell ⟨w.heap.size + 1 + 1, 5, none⟩ (.int .i64 z5)).setCell ⟨w.heap.size + 1 + 1, 6, none⟩ (.int .i64 z6)) (w.heap.size + 1 + 1) #[.int .i64 z0, .int .i64 z1, .int .i64 z2, .int .i64 z3, .int .i64 z4, .int .i64 z5, .int .i64 z6, .int .i64 0, .int .i64 0, .int .i64 0, .int .i64 0, .int .i64 0] 44) := hide ((((HP1.out.set 3 (.int .i64 z3)).set 4 (.int .i64 z4)).set 5 (.int .i64 z5)).set 6 (.int .i64 z6))
  have HB1 : Hid (Below w.heap.size w ((((X0.setCell ⟨w.heap.size + 1 + 1, 3, none⟩ (.int .i64 z3)).setCell ⟨w.heap.size + 1 + 1, 4, none⟩ (.int .i64 z4)).setCell ⟨w.heap.size + 1 + 1, 5, none⟩ (.int .i64 z5)).setCell ⟨w.heap.size + 1 + 1, 6, none⟩ (.int .i64 z6))) := hide ((((HC1.out.setCell (p := ⟨w.heap.size + 1 + 1, 3, none⟩) (by show w.heap.size ≤ w.heap.size + 1 + 1; omega) (.int .i64 z3)).setCell (p := ⟨w.heap.size + 1 + 1, 4, none⟩) (by show w.heap.size ≤ w.heap.size + 1 + 1; omega) (.int .i64 z4)).setCell (p := ⟨w.heap.size + 1 + 1, 5, none⟩) (by show w.heap.size ≤ w.heap.size + 1 + 1; omega) (.int .i64 z5)).setCell (p := ⟨w.heap.size + 1 + 1, 6, none⟩) (by show w.heap.size ≤ w.heap.size + 1 + 1; omega) (.int .i64 z6))
  replace HA1 : Hid (HoldV ((((X0.setCell ⟨w.heap.size + 1 + 1, 3, none⟩ (.int .i64 z3)).setCell ⟨w.heap.size + 1 + 1, 4, none⟩ (.int .i64 z4)).setCell ⟨w.heap.size + 1 + 1, 5, none⟩ (.int .i64 z5)).setCell ⟨w.heap.size + 1 + 1, 6, none⟩ (.int .i64 z6)) w.heap.size #[.int .i64 z0, .int .i64 z1, .int .i64 z2, .int .i64 z3, .int .i64 z4, .int .i64 z5, .int .i64 z6, .int .i64 z7, .int .i64 z8, .int .i64 z9, .int .i64 z10, .int .i64 z11] 52) := hide ((((HA1.out.far (w.heap.size + 1 + 1) 3 (.int .i64 z3) (by omega)).far (w.heap.size + 1 + 1) 4 (.int .i64 z4) (by omega)).far (w.heap.size + 1 + 1) 5 (.int .i64 z5) (by omega)).far (w.heap.size + 1 + 1) 6 (.int .i64 z6) (by omega))
  replace HR1 : Hid (HoldV ((((X0.setCell ⟨w.heap.size + 1 + 1, 3, none⟩ (.int .i64 z3)).setCell ⟨w.heap.size + 1 + 1, 4, none⟩ (.int .i64 z4)).setCell ⟨w.heap.size + 1 + 1, 5, none⟩ (.int .i64 z5)).setCell ⟨w.heap.size + 1 + 1, 6, none⟩ (.int .i64 z6)) (w.heap.size + 1) #[.int .i64 0, .int .i64 0, .int .i64 0, .int .i64 0, .int .i64 0, .int .i64 0, .int .i64 0, .int .i64 0, .int .i64 0, .int .i64 0, .int .i64 0, .int .i64 0] 44) := hide ((((HR1.out.far (w.heap.size + 1 + 1) 3 (.int .i64 z3) (by omega)).far (w.heap.size + 1 + 1) 4 (.int .i64 z4) (by omega)).far (w.heap.size + 1 + 1) 5 (.int .i64 z5) (by omega)).far (w.heap.size + 1 + 1) 6 (.int .i64 z6) (by omega))
  clear HP1 HC1 of0 a0_5 a0_6 a0_7 a0_8 o0_0 o0_1 o0_2 o0_3 o0_4 o0_5 o0_6 o0_7 o0_8 o0_9 o0_10 o0_11
  generalize ((((X0.setCell ⟨w.heap.size + 1 + 1, 3, none⟩ (.int .i64 z3)).setCell ⟨w.heap.size + 1 + 1, 4, none⟩ (.int .i64 z4)).setCell ⟨w.heap.size + 1 + 1, 5, none⟩ (.int .i64 z5)).setCell ⟨w.heap.size + 1 + 1, 6, none⟩ (.int .i64 z6)) = W1 at *
  refine (toPrefix_walk z7 z8 W1).mono ?_
  rintro e X1 ⟨rfl, hb1⟩
  have HA2 := hide (HA1.out.next hb1)
  have HR2 := hide (HR1.out.next hb1)
  have HP2 := hide (HO1.out.next hb1)
  have HC2 := hide (HB1.out.trans (hb1.mono HB1.out.size))
  clear hb1 HA1 HR1 HO1 HB1
  have of1 := HP2.out.frozen
  have a1_9 := HA2.out.cell 9 _ rfl
  have a1_10 := HA2.out.cell 10 _ rfl
  have a1_11 := HA2.out.cell 11 _ rfl
  have o1_0 := HP2.out.cell 0 _ rfl
  have o1_1 := HP2.out.cell 1 _ rfl
  have o1_2 := HP2.out.cell 2 _ rfl
  have o1_3 := HP2.out.cell 3 _ rfl
  have o1_4 := HP2.out.cell 4 _ rfl
  have o1_5 := HP2.out.cell 5 _ rfl
  have o1_6 := HP2.out.cell 6 _ rfl
  have o1_7 := HP2.out.cell 7 _ rfl
  have o1_8 := HP2.out.cell 8 _ rfl
  have o1_9 := HP2.out.cell 9 _ rfl
  have o1_10 := HP2.out.cell 10 _ rfl
  have o1_11 := HP2.out.cell 11 _ rfl
  have r0 := HR2.out.cell 0 _ rfl
  have r1 := HR2.out.cell 1 _ rfl
  have r2 := HR2.out.cell 2 _ rfl
  have r3 := HR2.out.cell 3 _ rfl
  have r4 := HR2.out.cell 4 _ rfl
  have r5 := HR2.out.cell 5 _ rfl
  have r6 := HR2.out.cell 6 _ rfl
  have r7 := HR2.out.cell 7 _ rfl
  have r8 := HR2.out.cell 8 _ rfl
  have r9 := HR2.out.cell 9 _ rfl
  have r10 := HR2.out.cell 10 _ rfl
  have r11 := HR2.out.cell 11 _ rfl
  have rf := HR2.out.frozen
  go_wp2_with fail
  exact bodyPost_ret (v := .agg #[.int .i64 z0, .int .i64 z1, .int .i64 z2, .int .i64 z3, .int .i64 z4, .int .i64 z5, .int .i64 z6, .int .i64 z7, .int .i64 z8, .int .i64 z9, .int .i64 z10, .int .i64 z11]) (by simp [results, Tryd.results21, go_sem, r0, r1, r2, r3, r4, r5, r6, r7, r8, r9, r10, r11]) rfl ⟨rfl, (((((((((((((((((HC2.out.setCell (p := ⟨w.heap.size + 1 + 1, 7, none⟩) (by show w.heap.size ≤ w.heap.size + 1 + 1; omega) _).setCell (p := ⟨w.heap.size + 1 + 1, 8, none⟩) (by show w.heap.size ≤ w.heap.size + 1 + 1; omega) _).setCell (p := ⟨w.heap.size + 1 + 1, 9, none⟩) (by show w.heap.size ≤ w.heap.size + 1 + 1; omega) _).setCell (p := ⟨w.heap.size + 1 + 1, 10, none⟩) (by show w.heap.size ≤ w.heap.size + 1 + 1; omega) _).setCell (p := ⟨w.heap.size + 1 + 1, 11, none⟩) (by show w.heap.size ≤ w.heap.size + 1 + 1; omega) _).setCell (p := ⟨w.heap.size + 1, 0, none⟩) (by show w.heap.size ≤ w.heap.size + 1; omega) _).setCell (p := ⟨w.heap.size + 1, 1, none⟩) (by show w.heap.size ≤ w.heap.size + 1; omega) _).setCell (p := ⟨w.heap.size + 1, 2, none⟩) (by show w.heap.size ≤ w.heap.size + 1; omega) _).setCell (p := ⟨w.heap.size + 1, 3, none⟩) (by show w.heap.size ≤ w.heap.size + 1; omega) _).setCell (p := ⟨w.heap.size + 1, 4, none⟩) (by show w.heap.size ≤ w.heap.size + 1; omega) _).setCell (p := ⟨w.heap.size + 1, 5, none⟩) (by show w.heap.size ≤ w.heap.size + 1; omega) _).setCell (p := ⟨w.heap.size + 1, 6, none⟩) (by show w.heap.size ≤ w.heap.size + 1; omega) _).setCell (p := ⟨w.heap.size + 1, 7, none⟩) (by show w.heap.size ≤ w.heap.size + 1; omega) _).setCell (p := ⟨w.heap.size + 1, 8, none⟩) (by show w.heap.size ≤ w.heap.size + 1; omega) _).setCell (p := ⟨w.heap.size + 1, 9, none⟩) (by show w.heap.size ≤ w.heap.size + 1; omega) _).setCell (p := ⟨w.heap.size + 1, 10, none⟩) (by show w.heap.size ≤ w.heap.size + 1; omega) _).setCell (p := ⟨w.heap.size + 1, 11, none⟩) (by show w.heap.size ≤ w.heap.size + 1; omega) _)⟩
theorem szRuleS_walk (a : Option Addr) (n cap : Nat) (w : World) (hm : n ≤ 9223372036854775807) :
    Calls Tryd.prog 5 #[.slice a n cap, .int .i64 1048576] w fun e w' => e = .returned (.int .i64 (if 1048576 < (n : Int) then -1 else 1048576 - (n : Int))) ∧ w' = w := by
  by_cases h : 1048576 < (n : Int)
  · rw [if_pos h]
    go_enter Tryd.func5, Tryd.ntmps5
    go_wp2
    go_ret
    exact ⟨rfl, rfl⟩
  · rw [if_neg h]
    go_enter Tryd.func5, Tryd.ntmps5
    go_wp2
    go_ret
    exact ⟨rfl, rfl⟩
end Go.Proofs.YtjojeplffefnpaaDoor
