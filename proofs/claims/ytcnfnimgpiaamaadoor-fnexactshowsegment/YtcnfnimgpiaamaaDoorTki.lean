/-
Contracts of functions of this seat.
-/
import Derived.Test.YtcnfnimgpiaamaaDoorRows
import Derived.WalkKit
import Derived.ProofKit
import Derived.OpenShut
import Derived.Test.YtcnfnimgpiaamaaDoorAns
namespace Go.Proofs.YtcnfnimgpiaamaaDoor
open Go.ChangeShapes Go.WideShapes Go.ChangeAt Go.RowKit
set_option linter.unusedVariables false
set_option maxRecDepth 100000
/-- takeKind of the program: none is left. -/
theorem takeKind_over (g n cap : Nat) (a : Option Addr) (w : World) (hc : Cur w g (.slice a n cap) n .nilIface) (hn : n ≤ 1048576) :
    Calls Tryd.prog 88 #[.pointer (some ⟨g, 0, none⟩)] w fun e w' => e = .returned (.int .i64 (-1)) ∧ ∃ m, w' = w.drewN m := by
  have CL := hide (left_walk g n n cap a .nilIface w hc (by omega) (Nat.le_refl _))
  clear hc
  go_enter Tryd.func88, Tryd.ntmps88
  go_wp2_with fail
  refine CL.out.mono ?_
  rintro e w1 ⟨rfl, m, rfl⟩
  have hz : ((n : Int) - (n : Int)) = 0 := by omega
  go_wp2_with fail
  go_ret
  exact ⟨rfl, m, rfl⟩
/-- takeKind of the program: a byte is left. -/
theorem takeKind_some (g p n cap b off : Nat) (zs : List Int) (w : World) (hc : Cur w g (.slice (some ⟨b, off, none⟩) n cap) p .nilIface) (hn : n ≤ 1048576) (hp : p < n) (hcap : n ≤ cap) (hz : zs.length = n) (ha : Arr w (some ⟨b, off, none⟩) zs) (hb : b ≠ g) :
    Calls Tryd.prog 88 #[.pointer (some ⟨g, 0, none⟩)] w fun e w' => e = .returned (.int .i64 (tnum ((zs.drop p).take 1))) ∧ Cur w' g (.slice (some ⟨b, off, none⟩) n cap) (p + 1) .nilIface ∧ w.grownBy w' (some g) := by
  have CL := hide (left_walk g p n cap (some ⟨b, off, none⟩) .nilIface w hc (by omega) (by omega))
  have CT := hide (fun m => take_ok g p n cap b off 1 zs (w.drewN m) (hc.drewN m) hn (by omega) (by omega) hcap hz ha hb (by omega))
  have hne : ((n : Int) - (p : Int) == 0) = false := beq_eq_false_iff_ne.2 (by omega)
  clear hc ha hz
  generalize tnum ((zs.drop p).take 1) = y at *
  go_enter Tryd.func88, Tryd.ntmps88
  go_wp2_with fail
  refine CL.out.mono ?_
  rintro e w1 ⟨rfl, m, rfl⟩
  go_wp2_with fail
  refine (CT.out m).mono ?_
  rintro e w2 ⟨rfl, hc2, hg2⟩
  have HC2 := hide hc2; have HG2 := hide hg2
  clear hc2 hg2
  go_wp2_with fail
  go_ret
  exact ⟨rfl, HC2.out, ⟨HG2.out.os, HG2.out.tape, HG2.out.output, HG2.out.size, HG2.out.block⟩⟩
end Go.Proofs.YtcnfnimgpiaamaaDoor
