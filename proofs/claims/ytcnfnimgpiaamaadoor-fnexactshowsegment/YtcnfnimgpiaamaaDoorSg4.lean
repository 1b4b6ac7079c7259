/-
Contracts of functions of this seat.
-/
import Derived.Test.YtcnfnimgpiaamaaDoorRows
import Derived.WalkKit
import Derived.ProofKit
import Derived.OpenShut
import Derived.Test.YtcnfnimgpiaamaaDoorSge
namespace Go.Proofs.YtcnfnimgpiaamaaDoor
open Go.ChangeShapes Go.WideShapes Go.ChangeAt Go.RowKit
set_option linter.unusedVariables false
set_option maxRecDepth 100000
def sgC (x0 x1 x2 x3 x4 x5 x6 : Int) (x7 : Bool) (x8 : Int) (x9 : Bool) (z z1 : List Int) (n0 : Nat) (s d : Int) : Int := if sgV x0 x1 x2 x3 x4 x5 x6 x7 x8 n0 z s d then (if 65515 < 20 + (segO x6 x7 x8 x9 n0 z).length + z1.length then 7 else 0) else 1
def sgL (x0 x1 x2 x3 x4 x5 x6 : Int) (x7 : Bool) (x8 : Int) (x9 : Bool) (z z1 : List Int) (n0 : Nat) (s d : Int) : List Int := if sgC x0 x1 x2 x3 x4 x5 x6 x7 x8 x9 z z1 n0 s d = 0 then sgW x0 x1 x2 x3 x4 x5 (segO x6 x7 x8 x9 n0 z) z1 s d else []
theorem sgOK_parts {x0 x1 x2 x3 x4 x5 x6 : Int} {x7 : Bool} {x8 : Int} {n0 : Nat} {z : List Int} (h : sgOK x0 x1 x2 x3 x4 x5 x6 x7 x8 n0 z = true) : (0 ≤ x0 ∧ x0 ≤ 65535) ∧ (0 ≤ x1 ∧ x1 ≤ 65535) ∧ (0 ≤ x2 ∧ x2 ≤ 4294967295) ∧ (0 ≤ x3 ∧ x3 ≤ 4294967295) ∧ (0 ≤ x4 ∧ x4 ≤ 63) ∧ (0 ≤ x5 ∧ x5 ≤ 65535) ∧ (0 ≤ x6 ∧ x6 ≤ 65535) ∧ (0 ≤ x8 ∧ x8 ≤ 14) ∧ n0 ≤ 3 ∧ sgS z = true := by
  unfold sgOK sgH at h
  simp only [Bool.and_eq_true, decide_eq_true_eq, inB_iff, adrB_iff] at h
  obtain ⟨⟨⟨⟨⟨⟨⟨⟨⟨⟨a, b⟩, c⟩, d⟩, e⟩, f⟩, g⟩, i⟩, _⟩, k⟩, l⟩ := h
  exact ⟨a, b, c, d, e, f, g, i, k, l⟩
theorem segO_len (m : Int) (hs : Bool) (sc : Int) (so : Bool) (n : Nat) (z : List Int) (h : z.length = n * 2) (h3 : n ≤ 3) : (segO m hs sc so n z).length ≤ 60 := by
  have h1 : (sgO1 m).length ≤ 4 := by unfold sgO1; split <;> simp [putL_len]
  have h2 : (sgO2 hs sc).length ≤ 4 := by unfold sgO2; split <;> simp
  have h3' : (sgO3 so).length ≤ 4 := by unfold sgO3; split <;> simp
  have h4 : (sgO4 n).length ≤ 4 := by unfold sgO4; split <;> simp
  have h5 := sgO5_len z
  unfold segO
  simp only [List.length_append]
  omega
end Go.Proofs.YtcnfnimgpiaamaaDoor
