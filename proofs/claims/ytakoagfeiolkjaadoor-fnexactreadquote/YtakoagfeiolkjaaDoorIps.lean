/-
Contracts of functions of this seat.
-/
import Derived.Test.YtakoagfeiolkjaaDoorRows
import Derived.WalkKit
import Derived.ProofKit
import Derived.OpenShut
import Derived.Test.YtakoagfeiolkjaaDoorIpk
import Derived.Test.YtakoagfeiolkjaaDoorCur
import Derived.Deep.RegionHeld3
namespace Go.Proofs.YtakoagfeiolkjaaDoor
open Go.ChangeShapes Go.WideShapes Go.ChangeAt Go.RowKit
set_option linter.unusedVariables false
set_option maxRecDepth 100000

theorem fits_eq (x d m : Int) (hd : 0 < d) (hm : m = d - 1) : (x / d == 0) = inB x 0 m := by
  unfold inB
  rw [Bool.eq_iff_iff, beq_iff_eq, decide_eq_true_iff]
  constructor
  · intro h
    have h1 := Int.mul_ediv_add_emod x d
    have h2 := Int.emod_nonneg x (Int.ne_of_gt hd)
    have h3 := Int.emod_lt_of_pos x hd
    rw [h, Int.mul_zero] at h1
    omega
  · rintro ⟨h1, h2⟩
    exact Int.ediv_eq_zero_of_lt h1 (by omega)
theorem mod4_eq (n : Nat) : ((n : Int) % 4 == 0) = (n % 4 == 0) := by
  rw [Bool.eq_iff_iff, beq_iff_eq, beq_iff_eq]
  omega
def plB (x : Int) : Bool := inB x 0 65528 && (x % 8 == 0)
def ooB (n : Nat) : Bool := decide (n ≤ 40) && (n % 4 == 0)
theorem within_walk (x : Int) (a : Option Addr) (n cap : Nat) (w : World) (hm : n ≤ 1048576) (h0 : 0 ≤ x) (h1 : x ≤ 65536) : Calls Tryd.prog 47 #[.int .i64 x, .slice a n cap] w fun e w' => e = .returned (.bool (decide (x + (n : Int) ≤ 65535))) ∧ w' = w := by
  go_enter Tryd.func47, Tryd.ntmps47
  go_wp2
  go_ret
  exact ⟨rfl, rfl⟩
theorem within_any (x : Int) (a : Option Addr) (n cap : Nat) (w : World) : Calls Tryd.prog 47 #[.int .i64 x, .slice a n cap] w fun e w' => (∃ b : Bool, e = .returned (.bool b)) ∧ w' = w := by
  go_enter Tryd.func47, Tryd.ntmps47
  go_wp2
  go_ret
  exact ⟨⟨_, rfl⟩, rfl⟩
theorem BoxPacket.b {w0 w : World} {x0 : Int} {x1 : Int} {x2 : Bool} {x3 : Bool} {x4 : Int} {x5 : Int} {x6 : Int} {x7 : Int} {x8 : Int} {v0 : Value} {v1 : Value} (h : BoxPacket w0 w x0 x1 x2 x3 x4 x5 x6 x7 x8 v0 v1) : Below w0.heap.size w0 w := h.1
theorem pkOK_eight (x0 x1 x4 x5 x6 x7 x8 : Int) (n0 : Nat) : pkOK x0 x1 x4 x5 x6 x7 x8 n0 = (inB x0 0 255 && inB x5 0 255 && inB x6 0 255 && inB x1 0 65535 && plB x4 && adrB x7 && adrB x8 && ooB n0) := by
  unfold pkOK plB ooB
  simp only [Bool.and_assoc]
end Go.Proofs.YtakoagfeiolkjaaDoor
