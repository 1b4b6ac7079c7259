/-
Contracts of functions of this seat.
-/
import Derived.Test.YtmgjagajcmeikalDoorRows
import Derived.WalkKit
import Derived.ProofKit
import Derived.OpenShut
import Derived.Test.YtmgjagajcmeikalDoorSrc
namespace Go.Proofs.YtmgjagajcmeikalDoor
open Go.ChangeShapes Go.WideShapes Go.ChangeAt Go.RowKit
set_option linter.unusedVariables false
set_option maxHeartbeats 1000000 in
theorem l02Host_walk (g : Nat) (zs : List Int) (w : World) (a : Option Addr) (cap : Nat) (harr : Arr w a zs) (hsrc : SrcA w g 57 zs.length a cap) (hl : zs.length ≤ 2097152) :
    Calls Tryd.prog 38 #[.pointer (some ⟨g, 0, none⟩)] w fun e w' => ∃ r : Int, e = .returned (.int .i64 r) ∧ 167772161 ≤ r ∧ r ≤ 167772422 ∧ w.grownBy w' (some g) ∧ SrcA w' g 57 zs.length a cap := by
  have HA0 := hide harr
  have HS0 := hide hsrc
  clear harr hsrc
  go_enter Tryd.func38, Tryd.ntmps38
  go_wp2_with fail
  refine (l01Next_walk _ _ zs _ a cap HA0.out HS0.out (by omega) (by omega) hl).mono ?_
  rintro e w1 ⟨r, rfl, r0, r1, hn1, hs1⟩
  have HS1 := hide hs1
  have HA1 := hide (HA0.out.srcA HS0.out hn1)
  clear hs1
  go_wp2_with fail
  refine (l01Next_walk _ _ zs _ a cap HA1.out HS1.out (by omega) (by omega) hl).mono ?_
  rintro e w2 ⟨q, rfl, q0, q1, hn2, hs2⟩
  have HS2 := hide hs2
  have HA2 := hide (HA1.out.srcA HS1.out hn2)
  clear hs2
  go_wp2_with fail
  go_ret
  exact ⟨_, rfl, by omega, by omega, grown_trans hn1 hn2, HS2.out⟩
end Go.Proofs.YtmgjagajcmeikalDoor
