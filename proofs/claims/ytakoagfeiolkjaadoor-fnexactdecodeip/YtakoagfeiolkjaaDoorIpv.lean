/-
Contracts of functions of this seat.
-/
import Derived.Test.YtakoagfeiolkjaaDoorRows
import Derived.WalkKit
import Derived.ProofKit
import Derived.OpenShut
import Derived.Test.YtakoagfeiolkjaaDoorIps
namespace Go.Proofs.YtakoagfeiolkjaaDoor
open Go.ChangeShapes Go.WideShapes Go.ChangeAt Go.RowKit
set_option linter.unusedVariables false
set_option maxRecDepth 100000
theorem and_15_i64 (x : Int) : bits .and .i64 x 15 = x % 16 :=
  and_mask .i64 4 (by decide) (fun n h0 h1 => wrap_i64' n h0 (by omega)) x
theorem version_walk (F : Nat) (x : Int) (w : World) (h : w.cell? ⟨F, 0, none⟩ = some (.int .i64 x)) : Calls Tryd.prog 39 #[.pointer (some ⟨F, 0, none⟩)] w fun e w' => e = .returned (.int .i64 (x / 16)) ∧ w' = w := by
  go_enter Tryd.func39, Tryd.ntmps39
  go_wp2
  go_ret
  exact ⟨rfl, rfl⟩
theorem hsize_walk (F : Nat) (x : Int) (w : World) (h : w.cell? ⟨F, 0, none⟩ = some (.int .i64 x)) : Calls Tryd.prog 40 #[.pointer (some ⟨F, 0, none⟩)] w fun e w' => e = .returned (.int .i64 (x % 16 * 4)) ∧ w' = w := by
  have ha := and_15_i64 x
  go_enter Tryd.func40, Tryd.ntmps40
  go_wp2
  go_ret
  exact ⟨rfl, rfl⟩

theorem and_8191_i64 (x : Int) : bits .and .i64 x 8191 = x % 8192 :=
  and_mask .i64 13 (by decide) (fun n h0 h1 => wrap_i64' n h0 (by omega)) x
theorem hoffset_walk (F : Nat) (x : Int) (w : World) (h : w.cell? ⟨F, 4, none⟩ = some (.int .i64 x)) : Calls Tryd.prog 48 #[.pointer (some ⟨F, 0, none⟩)] w fun e w' => e = .returned (.int .i64 (x % 8192 * 8)) ∧ w' = w := by
  have ha := and_8191_i64 x
  go_enter Tryd.func48, Tryd.ntmps48
  go_wp2
  go_ret
  exact ⟨rfl, rfl⟩
theorem has_walk (F : Nat) (x fl : Int) (w : World) (h : w.cell? ⟨F, 4, none⟩ = some (.int .i64 x)) : Calls Tryd.prog 46 #[.pointer (some ⟨F, 0, none⟩), .int .i64 fl] w fun e w' => e = .returned (.bool (bits .and .i64 x fl != 0)) ∧ w' = w := by
  go_enter Tryd.func46, Tryd.ntmps46
  go_wp2
  go_ret
  exact ⟨rfl, rfl⟩
end Go.Proofs.YtakoagfeiolkjaaDoor
