/-
Contracts of functions of this seat.
-/
import Derived.Test.YtakoagfeiolkjaaDoorRows
import Derived.WalkKit
import Derived.ProofKit
import Derived.OpenShut
import Derived.Test.YtakoagfeiolkjaaDoorStp
namespace Go.Proofs.YtakoagfeiolkjaaDoor
open Go.ChangeShapes Go.WideShapes Go.ChangeAt Go.RowKit
set_option linter.unusedVariables false
set_option maxRecDepth 100000
def inB (x l h : Int) : Bool := decide (l ≤ x ∧ x ≤ h)
theorem inB_iff {x l h : Int} : inB x l h = true ↔ l ≤ x ∧ x ≤ h := by unfold inB; simp
/-- What a packet's numbers must be. -/
def pkOK (x0 x1 x4 x5 x6 x7 x8 : Int) (n0 : Nat) : Bool := inB x0 0 255 && inB x5 0 255 && inB x6 0 255 && inB x1 0 65535 && inB x4 0 65528 && (x4 % 8 == 0) && adrB x7 && adrB x8 && decide (n0 ≤ 40) && (n0 % 4 == 0)
end Go.Proofs.YtakoagfeiolkjaaDoor
