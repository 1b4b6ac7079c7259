/-
Contracts of functions of this seat.
-/
import Derived.Test.YtpmeicpmgobmaaaRows
import Derived.WalkKit
import Derived.ProofKit
import Derived.OpenShut
import Derived.Test.YtpmeicpmgobmaaaL1SegmentLength
namespace Go.Proofs.Ytpmeicpmgobmaaa
open Go.ChangeShapes Go.WideShapes Go.ChangeAt Go.RowKit
set_option linter.unusedVariables false
set_option maxRecDepth 100000
def inB (x l h : Int) : Bool := decide (l ≤ x ∧ x ≤ h)
theorem inB_iff {x l h : Int} : inB x l h = true ↔ l ≤ x ∧ x ≤ h := by unfold inB; simp
abbrev sgT : Nat := 30
/-- A segment's flag. -/
def flagB (x f : Int) : Bool := bits .and .i64 x f != 0
/-- How many sequence numbers a segment takes. -/
def segN (x : Int) (n : Nat) : Int := (n : Int) + (if flagB x 2 then 1 else 0) + (if flagB x 1 then 1 else 0)
theorem l11Has_walk (x0 x1 x2 x3 x4 x5 x6 : Int) (x7 : Bool) (x8 : Int) (x9 : Bool) (v10 v11 : Value) (f : Int) (w : World) :
    Calls Try.prog 11 #[.agg #[.int .i64 x0, .int .i64 x1, .int .i64 x2, .int .i64 x3, .int .i64 x4, .int .i64 x5, .int .i64 x6, .bool x7, .int .i64 x8, .bool x9, v10, v11], .int .i64 f] w fun e w' => e = .returned (.bool (flagB x4 f)) ∧ Below w.heap.size w w' := by
  have HB : Hid (HoldV (w.alloc (.cells #[.int .i64 x0, .int .i64 x1, .int .i64 x2, .int .i64 x3, .int .i64 x4, .int .i64 x5, .int .i64 x6, .bool x7, .int .i64 x8, .bool x9, v10, v11] sgT)) w.heap.size _ sgT) := hide (heap_alloc_new _ _)
  have c4 := HB.out.cell 4 _ rfl
  have hb := (Below.refl w.heap.size w).alloc (Nat.le_refl _) (.cells #[.int .i64 x0, .int .i64 x1, .int .i64 x2, .int .i64 x3, .int .i64 x4, .int .i64 x5, .int .i64 x6, .bool x7, .int .i64 x8, .bool x9, v10, v11] sgT)
  have HW := hide hb
  clear hb HB
  go_enter Try.func11, Try.ntmps11
  go_wp2_with fail
  go_ret
  exact ⟨rfl, HW.out⟩
set_option maxHeartbeats 2000000 in
theorem specSegLen (x0 x1 x2 x3 x4 x5 x6 : Int) (x7 : Bool) (x8 : Int) (x9 : Bool) (z0 z1 : List Int) (Pre : World → Prop) : SegmentLengthP 5 Pre x0 x1 x2 x3 x4 x5 x6 x7 x8 x9 z0 z1 (segN x4 z1.length) := by
  intro a0 n0 c0 a1 n1 c1 W h0 _ _ m0 h1 _ _ m1 _
  subst h1
  generalize z1.length = n1 at *
  have HB : Hid (HoldV (W.alloc (.cells #[.int .i64 x0, .int .i64 x1, .int .i64 x2, .int .i64 x3, .int .i64 x4, .int .i64 x5, .int .i64 x6, .bool x7, .int .i64 x8, .bool x9, .slice a0 n0 c0, .slice a1 n1 c1] sgT)) W.heap.size _ sgT) := hide (heap_alloc_new _ _)
  have HW := hide ((Below.refl W.heap.size W).alloc (Nat.le_refl _) (.cells #[.int .i64 x0, .int .i64 x1, .int .i64 x2, .int .i64 x3, .int .i64 x4, .int .i64 x5, .int .i64 x6, .bool x7, .int .i64 x8, .bool x9, .slice a0 n0 c0, .slice a1 n1 c1] sgT))
  have HS := hide (fun W => l11Has_walk x0 x1 x2 x3 x4 x5 x6 x7 x8 x9 (.slice a0 n0 c0) (.slice a1 n1 c1) 2 W)
  have HF := hide (fun W => l11Has_walk x0 x1 x2 x3 x4 x5 x6 x7 x8 x9 (.slice a0 n0 c0) (.slice a1 n1 c1) 1 W)
  clear h0
  generalize hC : segN x4 n1 = C
  have HC : Hid (∀ (fs ff : Bool), flagB x4 2 = fs → flagB x4 1 = ff → C = (n1 : Int) + (if fs then 1 else 0) + (if ff then 1 else 0)) := hide (by intro fs ff h1 h2; rw [← hC]; unfold segN; rw [h1, h2])
  clear hC
  go_enter Try.func5, Try.ntmps5
  have c0' := HB.out.cell 0 _ rfl; have c1' := HB.out.cell 1 _ rfl; have c2' := HB.out.cell 2 _ rfl; have c3' := HB.out.cell 3 _ rfl; have c4' := HB.out.cell 4 _ rfl; have c5' := HB.out.cell 5 _ rfl; have c6' := HB.out.cell 6 _ rfl; have c7' := HB.out.cell 7 _ rfl; have c8' := HB.out.cell 8 _ rfl; have c9' := HB.out.cell 9 _ rfl; have c10' := HB.out.cell 10 _ rfl; have c11' := HB.out.cell 11 _ rfl
  go_wp2_with fail
  refine (HS.out _).mono ?_
  rintro e w1 ⟨rfl, hb1⟩
  have HB1 := hide (HB.out.next hb1)
  have HW1 := hide (below_on HW.out hb1)
  clear c0' c1' c2' c3' c4' c5' c6' c7' c8' c9' c10' c11' hb1 HB HW
  have c0' := HB1.out.cell 0 _ rfl; have c1' := HB1.out.cell 1 _ rfl; have c2' := HB1.out.cell 2 _ rfl; have c3' := HB1.out.cell 3 _ rfl; have c4' := HB1.out.cell 4 _ rfl; have c5' := HB1.out.cell 5 _ rfl; have c6' := HB1.out.cell 6 _ rfl; have c7' := HB1.out.cell 7 _ rfl; have c8' := HB1.out.cell 8 _ rfl; have c9' := HB1.out.cell 9 _ rfl; have c10' := HB1.out.cell 10 _ rfl; have c11' := HB1.out.cell 11 _ rfl
  have HM := hide m1
  clear m1
  cases hs : flagB x4 2
  all_goals
    have HS2 := hide hs
    have hw : IntKind.i64.wrap ((n1 : Int) + 1) = (n1 : Int) + 1 := by have := HM.out; rw [IntKind.wrap_i64]; omega
    clear hs
    go_wp2_with fail
    refine (HF.out _).mono ?_
    rintro e w2 ⟨rfl, hb2⟩
    have HW2 := hide (below_on HW1.out hb2)
    clear hb2
    cases hf : flagB x4 1
    all_goals
      have HF2 := hide hf
      have hw2 : IntKind.i64.wrap ((n1 : Int) + 1 + 1) = (n1 : Int) + 1 + 1 := by have := HM.out; rw [IntKind.wrap_i64]; omega
      clear hf
      go_wp2_with fail
      go_ret
      exact ⟨by rw [HC.out _ _ HS2.out HF2.out]; simp, HW2.out⟩
end Go.Proofs.Ytpmeicpmgobmaaa
