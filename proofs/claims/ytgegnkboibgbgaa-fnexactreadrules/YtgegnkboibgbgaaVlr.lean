/-
Contracts of functions of this seat.
-/
import Derived.Test.YtgegnkboibgbgaaRows
import Derived.WalkKit
import Derived.ProofKit
import Derived.OpenShut
import Derived.Test.YtgegnkboibgbgaaPri
import Derived.Test.YtgegnkboibgbgaaRok
namespace Go.Proofs.Ytgegnkboibgbgaa
open Go.ChangeShapes Go.WideShapes Go.ChangeAt Go.RowKit
set_option linter.unusedVariables false
set_option maxRecDepth 100000
theorem kindA_walk (v : Int) (w : World) : Calls Try.prog 60 #[.int .i64 v] w fun e w' => e = .returned (.int .i64 (kindA v)) ∧ Below w.heap.size w w' := by
  unfold kindA
  cases h : adrB v with
  | true => exact kind_yes v w h
  | false => exact kind_no v w h
theorem inB_tt {x l h : Int} (h1 : l ≤ x) (h2 : x ≤ h) : inB x l h = true := by unfold inB; exact decide_eq_true ⟨h1, h2⟩
theorem inB_lo {x l h : Int} (h1 : ¬ l ≤ x) : inB x l h = false := by unfold inB; exact decide_eq_false (fun e => h1 e.1)
theorem inB_hi {x l h : Int} (h2 : ¬ x ≤ h) : inB x l h = false := by unfold inB; exact decide_eq_false (fun e => h2 e.2)
end Go.Proofs.Ytgegnkboibgbgaa
