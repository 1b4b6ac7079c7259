/-
Contracts of functions of this seat.
-/
import Derived.Test.YtakoagfeiolkjaaDoorRows
import Derived.WalkKit
import Derived.ProofKit
import Derived.OpenShut
import Derived.Test.YtakoagfeiolkjaaDoorDst
namespace Go.Proofs.YtakoagfeiolkjaaDoor
open Go.ChangeShapes Go.WideShapes Go.ChangeAt Go.RowKit
set_option linter.unusedVariables false
set_option maxRecDepth 100000
set_option maxHeartbeats 1000000 in
theorem pass_no (g p n cap k : Nat) (a : Option Addr) (w : World) (hc : Cur w g (.slice a n cap) p .nilIface) (hn : n ≤ 140737488355328) (hp : p ≤ n) (hk : n < p + k) (hk1 : k ≤ 1048576) :
    Calls Tryd.prog 31 #[.pointer (some ⟨g, 0, none⟩), .int .i64 (k : Int)] w fun e w' => e = .returned (.slice none 0 0) ∧ Cur w' g (.slice a n cap) p (wErr 2) ∧ w.grownBy w' (some g) := by
  have CL := hide (left_walk g p n cap a .nilIface w hc hn (by omega))
  have HC := hide hc
  have hk0 : (0 : Int) ≤ (k : Int) := by omega
  have hd : ¬ (k : Int) ≤ (n : Int) - (p : Int) := by omega
  have HD := hide hd
  clear hc hd
  go_enter Tryd.func31, Tryd.ntmps31
  go_wp2_with fail
  refine CL.out.mono ?_
  rintro e w1 ⟨rfl, m, rfl⟩
  go_wp2_with fail
  rw [decide_eq_false (Int.not_le.2 HD.out)]
  refine (demand_no g p _ _ _ (HC.out.drewN m)).mono ?_
  rintro e w2 ⟨rfl, hc2, hg2⟩
  have HC2 := hide hc2
  have HG2 : Hid (w.grownBy w2 (some g)) := hide ⟨hg2.os, hg2.tape, hg2.output, hg2.size, hg2.block⟩
  obtain ⟨d0, d1, d2, df⟩ := HC2.out.cells
  clear hc2 hg2 HC CL HD
  go_wp2_with fail
  go_ret
  exact ⟨rfl, HC2.out, HG2.out⟩
set_option maxHeartbeats 1000000 in
theorem take_no (g p n cap k : Nat) (a : Option Addr) (w : World) (hc : Cur w g (.slice a n cap) p .nilIface) (hn : n ≤ 140737488355328) (hp : p ≤ n) (hk : n < p + k) (hk1 : k ≤ 1048576) :
    Calls Tryd.prog 25 #[.pointer (some ⟨g, 0, none⟩), .int .i64 (k : Int)] w fun e w' => e = .returned (.int .i64 0) ∧ Cur w' g (.slice a n cap) p (wErr 2) ∧ w.grownBy w' (some g) := by
  have CP := hide (pass_no g p n cap k a w hc hn hp hk hk1)
  clear hc
  go_enter Tryd.func25, Tryd.ntmps25
  go_wp2_with fail
  refine CP.out.mono ?_
  rintro e w1 ⟨rfl, hc1, hg1⟩
  have HC := hide hc1
  have HG := hide hg1
  clear hc1 hg1
  go_wp2_with fail
  refine (takeNumber_none _).mono ?_
  rintro e w2 ⟨rfl, rfl⟩
  go_wp2_with fail
  go_ret
  exact ⟨rfl, HC.out, HG.out⟩
end Go.Proofs.YtakoagfeiolkjaaDoor
