/-
Contracts of functions of this seat.
-/
import Derived.Test.YtmgjagajcmeikalDoorRows
import Derived.WalkKit
import Derived.ProofKit
import Derived.OpenShut
import Derived.Test.YtmgjagajcmeikalDoorTxm
import Derived.Test.YtmgjagajcmeikalDoorMup
namespace Go.Proofs.YtmgjagajcmeikalDoor
open Go.ChangeShapes Go.WideShapes Go.ChangeAt Go.RowKit
set_option linter.unusedVariables false
theorem readShow (a : Int) (w : World) (h : adrB a = true) :
    Calls Tryd.prog 7 #[.string (showA a)] w fun e w' => e = .returned (.tuple #[.int .i64 a, .int .i64 0]) ∧ Below w.heap.size w w' := by
  have h1 := addr_walk (adU a) w (by have := ad_short (adU_ok a); omega)
  rw [adU_val h, adC_yes (adU_ok a), show bs (adU a) = showA a from adU_text h] at h1
  exact h1
theorem readMacUp (m : Int) (w : World) (h : macOKB m = true) :
    Calls Tryd.prog 9 #[.string (bs (macUp m))] w fun e w' => e = .returned (.tuple #[.int .i64 m, .int .i64 0]) ∧ Below w.heap.size w w' := by
  have h1 := mac_walk (bs (macUp m)) w (macUp_size m)
  rw [macX_yes (macUp_ok m), macC_yes (macUp_ok m), macUp_val h] at h1
  exact h1
theorem showMacU (m : Int) (w : World) (h : macOKB m = true) :
    Calls Tryd.prog 8 #[.int .i64 m] w fun e w' => e = .returned (.tuple #[.string (bs (macU m)), .int .i64 0]) ∧ Below w.heap.size w w' := by
  have h1 := show_yes m w h
  rw [← macU_text m] at h1
  exact h1
end Go.Proofs.YtmgjagajcmeikalDoor
