/-
Contracts of functions of this seat.
-/
import Derived.Test.YtfffkgladjphoaaRows
import Derived.WalkKit
import Derived.ProofKit
import Derived.OpenShut
import Derived.Test.YtfffkgladjphoaaBl7
namespace Go.Proofs.Ytfffkgladjphoaa
open Go.ChangeShapes Go.WideShapes Go.ChangeAt Go.RowKit
set_option linter.unusedVariables false
set_option maxRecDepth 100000
/-- How much is on the way. -/
def pipeS : List PieceM → Int
  | [] => 0
  | o :: r => (if o.f4 = false ∧ o.f5 = false then o.f1 - o.f0 else 0) + pipeS r
theorem pipeS_app : ∀ (a b : List PieceM), pipeS (a ++ b) = pipeS a + pipeS b
  | [], b => by simp [pipeS]
  | o :: a, b => by show _ + pipeS (a ++ b) = _ + pipeS a + pipeS b; rw [pipeS_app a b]; omega
theorem chk_app : ∀ (a b : List PieceM) (u x : Int), chk u (a ++ b) = some x → ∃ m, chk u a = some m ∧ chk m b = some x
  | [], b, u, x, h => ⟨u, rfl, h⟩
  | o :: a, b, u, x, h => by
    rw [List.cons_append] at h
    by_cases hh : o.f0 = u ∧ vp o
    · rw [chk_cons hh.1 hh.2] at h
      obtain ⟨m, h1, h2⟩ := chk_app a b _ _ h
      exact ⟨m, by rw [chk_cons hh.1 hh.2]; exact h1, h2⟩
    · rw [chk_ill hh] at h; cases h
theorem pipe_le : ∀ (a : List PieceM) (u m : Int), chk u a = some m → 0 ≤ pipeS a ∧ pipeS a ≤ m - u
  | [], u, m, h => by cases h; simp [pipeS]
  | o :: a, u, m, h => by
    by_cases hh : o.f0 = u ∧ vp o
    · rw [chk_cons hh.1 hh.2] at h
      have h1 := pipe_le a _ _ h
      have h2 := hh.2.1
      unfold pipeS
      split <;> omega
    · rw [chk_ill hh] at h; cases h
/-- A part of a valid board: its sum's bounds, and those of a piece in it. -/
theorem bOK_parts {u x : Int} {a b : List PieceM} (h : bOK u x (a ++ b)) : 0 ≤ pipeS a ∧ pipeS a ≤ 1099511627776 := by
  obtain ⟨m, h1, h2⟩ := chk_app a b _ _ h.2.2.2
  have h3 := pipe_le _ _ _ h1
  have h4 := chk_le _ _ _ h2
  have := h.1; have := h.2.1
  omega
theorem bOK_piece {u x : Int} {os : List PieceM} (h : bOK u x os) {o : PieceM} (ho : o ∈ os) : 0 ≤ o.f0 ∧ o.f0 < o.f1 ∧ o.f1 ≤ 1099511627776 := by
  have h1 := chk_mem _ _ _ h.2.2.2 o ho
  have := h.1; have := h.2.1; have := h1.2.2.1
  omega
theorem pc_box (w : World) (x0 x1 x2 x3 : Int) (x4 x5 : Bool) : HoldV (w.alloc (.cells #[.int .i64 x0, .int .i64 x1, .int .i64 x2, .int .i64 x3, .bool x4, .bool x5] 36)) w.heap.size #[.int .i64 x0, .int .i64 x1, .int .i64 x2, .int .i64 x3, .bool x4, .bool x5] 36 := heap_alloc_new _ _
theorem size_walk (x0 x1 x2 x3 : Int) (x4 x5 : Bool) (w : World) (h0 : 0 ≤ x0) (h1 : x0 < x1) (h2 : x1 ≤ 1099511627776) : Calls Try.prog 38 #[.agg #[.int .i64 x0, .int .i64 x1, .int .i64 x2, .int .i64 x3, .bool x4, .bool x5]] w fun e w' => e = .returned (.int .i64 (x1 - x0)) ∧ Below w.heap.size w w' := by
  have HB := hide (pc_box w x0 x1 x2 x3 x4 x5)
  have HW := hide ((Below.refl w.heap.size w).alloc (Nat.le_refl _) (.cells #[.int .i64 x0, .int .i64 x1, .int .i64 x2, .int .i64 x3, .bool x4, .bool x5] 36))
  have k0 := HB.out.cell 0 _ rfl; have k1 := HB.out.cell 1 _ rfl
  go_enter Try.func38, Try.ntmps38
  go_wp2_with fail
  go_ret
  exact ⟨rfl, HW.out⟩
theorem onWay_walk (x0 x1 x2 x3 : Int) (x4 x5 : Bool) (w : World) : Calls Try.prog 33 #[.agg #[.int .i64 x0, .int .i64 x1, .int .i64 x2, .int .i64 x3, .bool x4, .bool x5]] w fun e w' => e = .returned (.bool (!x4 && !x5)) ∧ Below w.heap.size w w' := by
  have HB := hide (pc_box w x0 x1 x2 x3 x4 x5)
  have HW := hide ((Below.refl w.heap.size w).alloc (Nat.le_refl _) (.cells #[.int .i64 x0, .int .i64 x1, .int .i64 x2, .int .i64 x3, .bool x4, .bool x5] 36))
  have k4 := HB.out.cell 4 _ rfl; have k5 := HB.out.cell 5 _ rfl
  cases x4 <;> cases x5 <;>
  (go_enter Try.func33, Try.ntmps33
   go_wp2_with fail
   go_ret
   exact ⟨rfl, HW.out⟩)
end Go.Proofs.Ytfffkgladjphoaa
