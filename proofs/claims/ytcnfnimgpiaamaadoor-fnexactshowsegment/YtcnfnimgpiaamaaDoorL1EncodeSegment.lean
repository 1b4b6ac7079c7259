/-
Contracts of functions of this seat.
-/
import Derived.Test.YtcnfnimgpiaamaaDoorRows
import Derived.WalkKit
import Derived.ProofKit
import Derived.OpenShut
import Derived.Test.YtcnfnimgpiaamaaDoorTys
import Derived.Test.YtcnfnimgpiaamaaDoorL0EncodeSegment
namespace Go.Proofs.YtcnfnimgpiaamaaDoor
open Go.ChangeShapes Go.WideShapes Go.ChangeAt Go.RowKit
set_option linter.unusedVariables false
set_option maxRecDepth 100000
theorem szSegment_big0 (x0 x1 x2 x3 x4 x5 x6 : Int) (x7 : Bool) (x8 : Int) (x9 : Bool) (a0 : Option Addr) (n0 c0 : Nat) (a1 : Option Addr) (n1 c1 : Nat) (w : World) (h0 : 0 ≤ 1048576) (hs : 1048576 < (n0 : Int)) (m0 : n0 ≤ 9223372036854775807) (m1 : n1 ≤ 9223372036854775807) :
    Calls Tryd.prog 7 #[.agg #[.int .i64 x0, .int .i64 x1, .int .i64 x2, .int .i64 x3, .int .i64 x4, .int .i64 x5, .int .i64 x6, .bool x7, .int .i64 x8, .bool x9, .slice a0 n0 c0, .slice a1 n1 c1], .int .i64 1048576] w fun e w' => e = .returned (.int .i64 (-1)) ∧ Below w.heap.size w w' := by
  have hb := (Below.refl w.heap.size w).alloc (Nat.le_refl _) (.cells #[.int .i64 x0, .int .i64 x1, .int .i64 x2, .int .i64 x3, .int .i64 x4, .int .i64 x5, .int .i64 x6, .bool x7, .int .i64 x8, .bool x9, .slice a0 n0 c0, .slice a1 n1 c1] 25)
  have Z0 := hide (fun w => by have h := szSt_walk a0 n0 c0 (1048576) w (by omega) (by omega) (by omega); rw [if_pos (by omega)] at h; exact h)
  go_enter Tryd.func7, Tryd.ntmps7
  go_wp2_with fail
  refine (Z0.out _).mono ?_
  rintro e w' ⟨rfl, rfl⟩
  go_wp2_with fail
  go_ret
  exact ⟨rfl, hb⟩
theorem szSegment_big1 (x0 x1 x2 x3 x4 x5 x6 : Int) (x7 : Bool) (x8 : Int) (x9 : Bool) (a0 : Option Addr) (n0 c0 : Nat) (a1 : Option Addr) (n1 c1 : Nat) (w : World) (h0 : (n0 : Int) ≤ 1048576) (hs : 1048576 < (n0 : Int) + (n1 : Int)) (m0 : n0 ≤ 9223372036854775807) (m1 : n1 ≤ 9223372036854775807) :
    Calls Tryd.prog 7 #[.agg #[.int .i64 x0, .int .i64 x1, .int .i64 x2, .int .i64 x3, .int .i64 x4, .int .i64 x5, .int .i64 x6, .bool x7, .int .i64 x8, .bool x9, .slice a0 n0 c0, .slice a1 n1 c1], .int .i64 1048576] w fun e w' => e = .returned (.int .i64 (-1)) ∧ Below w.heap.size w w' := by
  have hb := (Below.refl w.heap.size w).alloc (Nat.le_refl _) (.cells #[.int .i64 x0, .int .i64 x1, .int .i64 x2, .int .i64 x3, .int .i64 x4, .int .i64 x5, .int .i64 x6, .bool x7, .int .i64 x8, .bool x9, .slice a0 n0 c0, .slice a1 n1 c1] 25)
  have Z0 := hide (fun w => by have h := szSt_walk a0 n0 c0 (1048576) w (by omega) (by omega) (by omega); rw [if_neg (by omega)] at h; exact h)
  have Z1 := hide (fun w => by have h := szByteS_walk a1 n1 c1 (1048576 - (n0 : Int)) w (by omega) (by omega) (by omega); rw [if_pos (by omega)] at h; exact h)
  go_enter Tryd.func7, Tryd.ntmps7
  go_wp2_with fail
  refine (Z0.out _).mono ?_
  rintro e w' ⟨rfl, rfl⟩
  go_wp2_with fail
  refine (Z1.out _).mono ?_
  rintro e w' ⟨rfl, rfl⟩
  go_wp2_with fail
  go_ret
  exact ⟨rfl, hb⟩

/-- What is wanted of EncodeSegment. -/
def EncodeSegmentP (f : Nat) (Pre : World → Prop) (x0_0 : Int) (x0_1 : Int) (x0_2 : Int) (x0_3 : Int) (x0_4 : Int) (x0_5 : Int) (x0_6 : Int) (x0_7 : Bool) (x0_8 : Int) (x0_9 : Bool) (z0_0 : List Int) (z0_1 : List Int) (m1 : Int) (m2 : Int) (L0_0 : List Int) (C1 : Int) : Prop :=
  ∀ (a0_0 : Option Addr) (n0_0 c0_0 : Nat) (a0_1 : Option Addr) (n0_1 c0_1 : Nat) (W : World), z0_0.length = n0_0 * 2 → ArrI W a0_0 z0_0 → n0_0 ≤ c0_0 → n0_0 ≤ 1048576 → z0_1.length = n0_1 → Arr W a0_1 z0_1 → n0_1 ≤ c0_1 → n0_1 ≤ 1048576 → Pre W → Calls Tryd.prog f #[.agg #[.int .i64 x0_0, .int .i64 x0_1, .int .i64 x0_2, .int .i64 x0_3, .int .i64 x0_4, .int .i64 x0_5, .int .i64 x0_6, .bool x0_7, .int .i64 x0_8, .bool x0_9, .slice a0_0 n0_0 c0_0, .slice a0_1 n0_1 c0_1], .int .i64 m1, .int .i64 m2] W fun e w' => ∃ v0_0 : Value, e = .returned (.tuple #[v0_0, .int .i64 C1]) ∧ OwnB w' W.heap.size v0_0 L0_0 ∧ Below W.heap.size W w'
theorem szB_d (a : Option Addr) (n cap : Nat) (l l' : Int) (hl : l' = l - (n : Int)) (h0 : 0 ≤ l') (h1 : l ≤ 1048576) (w : World) : Calls Tryd.prog 25 #[.slice a n cap, .int .i64 l] w fun e w' => e = .returned (.int .i64 l') ∧ Below w.heap.size w w' := by
  have h := szByteS_walk a n cap l w (by omega) (by omega) h1
  rw [if_neg (by omega), ← hl] at h
  refine h.mono ?_
  rintro e w' ⟨rfl, rfl⟩
  exact ⟨rfl, Below.refl _ _⟩
end Go.Proofs.YtcnfnimgpiaamaaDoor
