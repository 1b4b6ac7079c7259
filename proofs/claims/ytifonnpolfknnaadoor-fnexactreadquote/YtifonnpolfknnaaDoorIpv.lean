/-
Contracts of functions of this seat.
-/
import Derived.Test.YtifonnpolfknnaaDoorRows
import Derived.WalkKit
import Derived.ProofKit
import Derived.OpenShut
import Derived.Test.YtifonnpolfknnaaDoorIps
namespace Go.Proofs.YtifonnpolfknnaaDoor
open Go.ChangeShapes Go.WideShapes Go.ChangeAt Go.RowKit
set_option linter.unusedVariables false
set_option maxRecDepth 100000
theorem and_15_i64 (x : Int) : bits .and .i64 x 15 = x % 16 :=
  and_mask .i64 4 (by decide) (fun n h0 h1 => wrap_i64' n h0 (by omega)) x
theorem version_walk (F : Nat) (x : Int) (w : World) (h : w.cell? ⟨F, 0, none⟩ = some (.int .i64 x)) : Calls Tryd.prog 58 #[.pointer (some ⟨F, 0, none⟩)] w fun e w' => e = .returned (.int .i64 (x / 16)) ∧ w' = w := by
  go_enter Tryd.func58, Tryd.ntmps58
  go_wp2
  go_ret
  exact ⟨rfl, rfl⟩
theorem hsize_walk (F : Nat) (x : Int) (w : World) (h : w.cell? ⟨F, 0, none⟩ = some (.int .i64 x)) : Calls Tryd.prog 59 #[.pointer (some ⟨F, 0, none⟩)] w fun e w' => e = .returned (.int .i64 (x % 16 * 4)) ∧ w' = w := by
  have ha := and_15_i64 x
  go_enter Tryd.func59, Tryd.ntmps59
  go_wp2
  go_ret
  exact ⟨rfl, rfl⟩
end Go.Proofs.YtifonnpolfknnaaDoor
