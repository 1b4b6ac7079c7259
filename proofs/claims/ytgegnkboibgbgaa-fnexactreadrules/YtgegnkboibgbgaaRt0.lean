/-
Contracts of functions of this seat.
-/
import Derived.Test.YtgegnkboibgbgaaRows
import Derived.WalkKit
import Derived.ProofKit
import Derived.OpenShut
import Derived.Test.YtgegnkboibgbgaaPrf
namespace Go.Proofs.Ytgegnkboibgbgaa
open Go.ChangeShapes Go.WideShapes Go.ChangeAt Go.RowKit
set_option linter.unusedVariables false
set_option maxRecDepth 100000
theorem three_alloc (w : World) (o1 o2 o3 : Obj) : Below w.heap.size w (((w.alloc o1).alloc o2).alloc o3) := by
  have s1 := World.size_alloc w o1
  have s2 := World.size_alloc (w.alloc o1) o2
  exact (((Below.refl _ _).alloc (Nat.le_refl _) _).alloc (by omega) _).alloc (by omega) _
theorem eqPrefix_walk (a b : Int) (w : World) :
    Calls Try.prog 37 #[.agg #[.int .i64 a, .int .i64 b], .agg #[.int .i64 a, .int .i64 b]] w fun e w' => e = .returned (.bool true) ∧ Below w.heap.size w w' := by
  go_enter Try.func37, Try.ntmps37
  go_wp2
  go_ret
  exact ⟨rfl, ((Below.refl _ _).alloc (Nat.le_refl _) _).alloc (by simp) _⟩
set_option maxHeartbeats 2000000 in
theorem eqRoute_walk (z0 z1 z2 z3 z4 : Int) (w : World) :
    Calls Try.prog 19 #[.agg #[.int .i64 z0, .int .i64 z1, .int .i64 z2, .int .i64 z3, .int .i64 z4], .agg #[.int .i64 z0, .int .i64 z1, .int .i64 z2, .int .i64 z3, .int .i64 z4]] w fun e w' => e = .returned (.bool true) ∧ Below w.heap.size w w' := by
  have HB := hide (two_allocs w (.cells #[.int .i64 z0, .int .i64 z1, .int .i64 z2, .int .i64 z3, .int .i64 z4] 39) (.cells #[.int .i64 z0, .int .i64 z1, .int .i64 z2, .int .i64 z3, .int .i64 z4] 39))
  generalize hW : (w.alloc (.cells #[.int .i64 z0, .int .i64 z1, .int .i64 z2, .int .i64 z3, .int .i64 z4] 39)).alloc (.cells #[.int .i64 z0, .int .i64 z1, .int .i64 z2, .int .i64 z3, .int .i64 z4] 39) = W at *
  have HW := hide hW
  clear hW
  have HA0 : Hid (HoldV W w.heap.size _ _) := hide HB.out.2.1
  have HC0 : Hid (HoldV W (w.heap.size + 1) _ _) := hide HB.out.2.2
  go_enter Try.func19, Try.ntmps19
  go_wp2_with fail
  rw [HW.out]
  refine (eqPrefix_walk z0 z1 W).mono ?_
  rintro e w1 ⟨rfl, hb1⟩
  have HA := hide (HA0.out.next hb1)
  have HC := hide (HC0.out.next hb1)
  have HBE := hide (HB.out.1.trans (hb1.mono HB.out.1.size))
  clear hb1 HB HW HA0 HC0
  have a2 := HA.out.cell 2 _ rfl
  have a3 := HA.out.cell 3 _ rfl
  have a4 := HA.out.cell 4 _ rfl
  have c2 := HC.out.cell 2 _ rfl
  have c3 := HC.out.cell 3 _ rfl
  have c4 := HC.out.cell 4 _ rfl
  go_wp2_with fail
  go_ret
  exact ⟨rfl, HBE.out⟩
theorem three_holds (w : World) (v1 v2 v3 : Array Value) (T1 T2 T3 : Nat) : HoldV (((w.alloc (.cells v1 T1)).alloc (.cells v2 T2)).alloc (.cells v3 T3)) w.heap.size v1 T1 ∧ HoldV (((w.alloc (.cells v1 T1)).alloc (.cells v2 T2)).alloc (.cells v3 T3)) (w.heap.size + 1) v2 T2 ∧ HoldV (((w.alloc (.cells v1 T1)).alloc (.cells v2 T2)).alloc (.cells v3 T3)) (w.heap.size + 1 + 1) v3 T3 := by
  obtain ⟨h1, h2, h3⟩ := two_allocs w (.cells v1 T1) (.cells v2 T2)
  have s1 := World.size_alloc w (.cells v1 T1)
  have s2 := World.size_alloc (w.alloc (.cells v1 T1)) (.cells v2 T2)
  have hb := (Below.refl ((w.alloc (.cells v1 T1)).alloc (.cells v2 T2)).heap.size ((w.alloc (.cells v1 T1)).alloc (.cells v2 T2))).alloc (Nat.le_refl _) (.cells v3 T3)
  refine ⟨HoldV.next (show HoldV _ w.heap.size v1 T1 from h2) hb, HoldV.next (show HoldV _ (w.heap.size + 1) v2 T2 from h3) hb, ?_⟩
  unfold HoldV
  rw [show w.heap.size + 1 + 1 = ((w.alloc (.cells v1 T1)).alloc (.cells v2 T2)).heap.size by omega]
  exact heap_alloc_new _ _
end Go.Proofs.Ytgegnkboibgbgaa
