/-
Contracts of functions of this seat.
-/
import Derived.Test.YtjiilgjdbmekgahDoorRows
import Derived.WalkKit
import Derived.ProofKit
import Derived.OpenShut
import Derived.Test.YtjiilgjdbmekgahDoorIpk
import Derived.Test.YtjiilgjdbmekgahDoorCur
namespace Go.Proofs.YtjiilgjdbmekgahDoor
open Go.ChangeShapes Go.WideShapes Go.ChangeAt Go.RowKit
set_option linter.unusedVariables false
set_option maxRecDepth 100000

theorem fits_eq (x d m : Int) (hd : 0 < d) (hm : m = d - 1) : (x / d == 0) = inB x 0 m := by
  unfold inB
  rw [Bool.eq_iff_iff, beq_iff_eq, decide_eq_true_iff]
  constructor
  · intro h
    have h1 := Int.mul_ediv_add_emod x d
    have h2 := Int.emod_nonneg x (Int.ne_of_gt hd)
    have h3 := Int.emod_lt_of_pos x hd
    rw [h, Int.mul_zero] at h1
    omega
  · rintro ⟨h1, h2⟩
    exact Int.ediv_eq_zero_of_lt h1 (by omega)
theorem mod4_eq (n : Nat) : ((n : Int) % 4 == 0) = (n % 4 == 0) := by
  rw [Bool.eq_iff_iff, beq_iff_eq, beq_iff_eq]
  omega
def plB (x : Int) : Bool := inB x 0 65528 && (x % 8 == 0)
def ooB (n : Nat) : Bool := decide (n ≤ 40) && (n % 4 == 0)
theorem within_walk (x : Int) (a : Option Addr) (n cap : Nat) (w : World) (hm : n ≤ 1048576) (h0 : 0 ≤ x) (h1 : x ≤ 65536) : Calls Tryd.prog 52 #[.int .i64 x, .slice a n cap] w fun e w' => e = .returned (.bool (decide (x + (n : Int) ≤ 65535))) ∧ w' = w := by
  go_enter Tryd.func52, Tryd.ntmps52
  go_wp2
  go_ret
  exact ⟨rfl, rfl⟩
theorem within_any (x : Int) (a : Option Addr) (n cap : Nat) (w : World) : Calls Tryd.prog 52 #[.int .i64 x, .slice a n cap] w fun e w' => (∃ b : Bool, e = .returned (.bool b)) ∧ w' = w := by
  go_enter Tryd.func52, Tryd.ntmps52
  go_wp2
  go_ret
  exact ⟨⟨_, rfl⟩, rfl⟩
theorem pkOK_eight (x0 x1 x4 x5 x6 x7 x8 : Int) (n0 : Nat) : pkOK x0 x1 x4 x5 x6 x7 x8 n0 = (inB x0 0 255 && inB x5 0 255 && inB x6 0 255 && inB x1 0 65535 && plB x4 && adrB x7 && adrB x8 && ooB n0) := by
  unfold pkOK plB ooB
  simp only [Bool.and_assoc]
theorem and_15_i64 (x : Int) : bits .and .i64 x 15 = x % 16 :=
  and_mask .i64 4 (by decide) (fun n h0 h1 => wrap_i64' n h0 (by omega)) x
theorem and_8191_i64 (x : Int) : bits .and .i64 x 8191 = x % 8192 :=
  and_mask .i64 13 (by decide) (fun n h0 h1 => wrap_i64' n h0 (by omega)) x
theorem version_walk (F : Nat) (x : Int) (w : World) (h : w.cell? ⟨F, 0, none⟩ = some (.int .i64 x)) : Calls Tryd.prog 60 #[.pointer (some ⟨F, 0, none⟩)] w fun e w' => e = .returned (.int .i64 (x / 16)) ∧ w' = w := by
  go_enter Tryd.func60, Tryd.ntmps60
  go_wp2
  go_ret
  exact ⟨rfl, rfl⟩
theorem hsize_walk (F : Nat) (x : Int) (w : World) (h : w.cell? ⟨F, 0, none⟩ = some (.int .i64 x)) : Calls Tryd.prog 50 #[.pointer (some ⟨F, 0, none⟩)] w fun e w' => e = .returned (.int .i64 (x % 16 * 4)) ∧ w' = w := by
  have ha := and_15_i64 x
  go_enter Tryd.func50, Tryd.ntmps50
  go_wp2
  go_ret
  exact ⟨rfl, rfl⟩
theorem hoffset_walk (F : Nat) (x : Int) (w : World) (h : w.cell? ⟨F, 4, none⟩ = some (.int .i64 x)) : Calls Tryd.prog 53 #[.pointer (some ⟨F, 0, none⟩)] w fun e w' => e = .returned (.int .i64 (x % 8192 * 8)) ∧ w' = w := by
  have ha := and_8191_i64 x
  go_enter Tryd.func53, Tryd.ntmps53
  go_wp2
  go_ret
  exact ⟨rfl, rfl⟩
theorem has_walk (F : Nat) (x fl : Int) (w : World) (h : w.cell? ⟨F, 4, none⟩ = some (.int .i64 x)) : Calls Tryd.prog 51 #[.pointer (some ⟨F, 0, none⟩), .int .i64 fl] w fun e w' => e = .returned (.bool (bits .and .i64 x fl != 0)) ∧ w' = w := by
  go_enter Tryd.func51, Tryd.ntmps51
  go_wp2
  go_ret
  exact ⟨rfl, rfl⟩
end Go.Proofs.YtjiilgjdbmekgahDoor
