/-
Contracts of functions of this seat.
-/
import Derived.Test.YtakoagfeiolkjabDoorRows
import Derived.WalkKit
import Derived.ProofKit
import Derived.OpenShut
import Derived.Test.YtakoagfeiolkjabDoorIps
import Derived.Test.YtakoagfeiolkjabDoorIpe
namespace Go.Proofs.YtakoagfeiolkjabDoor
open Go.ChangeShapes Go.WideShapes Go.ChangeAt Go.RowKit
set_option linter.unusedVariables false
set_option maxRecDepth 100000
def fitB (x4 : Int) (n0 n1 : Nat) : Bool := decide (20 + (n0 : Int) + (n1 : Int) ≤ 65535) && decide (x4 + (n1 : Int) ≤ 65535)
set_option maxHeartbeats 1000000 in
theorem fitsInBytes_walk (x0 x1 : Int) (x2 x3 : Bool) (x4 x5 x6 x7 x8 : Int) (a0 : Option Addr) (n0 c0 : Nat) (a1 : Option Addr) (n1 c1 : Nat) (w : World) (m0 : n0 ≤ 1048576) (m1 : n1 ≤ 1048576) (h4 : 0 ≤ x4) (h5 : x4 ≤ 65536) :
    Calls Tryd.prog 59 #[.agg #[.int .i64 x0, .int .i64 x1, .bool x2, .bool x3, .int .i64 x4, .int .i64 x5, .int .i64 x6, .int .i64 x7, .int .i64 x8, .slice a0 n0 c0, .slice a1 n1 c1]] w fun e w' => e = .returned (.bool (fitB x4 n0 n1)) ∧ Below w.heap.size w w' := by
  have HB := hide (BoxPacket.start w x0 x1 x2 x3 x4 x5 x6 x7 x8 (.slice a0 n0 c0) (.slice a1 n1 c1) 47)
  have CL := hide (fun W => headAndPayload_walk x0 x1 x2 x3 x4 x5 x6 x7 x8 a0 n0 c0 a1 n1 c1 W m0 m1)
  have CW := hide (fun W => within_walk x4 a1 n1 c1 W m1 h4 h5)
  obtain ⟨_, _, k0, k1, k2, k3, k4, k5, k6, k7, k8, k9, k10⟩ := HB.out
  cases hs : decide (20 + (n0 : Int) + (n1 : Int) ≤ 65535) with
  | false =>
    have E : Hid (fitB x4 n0 n1 = false) := hide (by unfold fitB; rw [hs]; rfl)
    have hs' := of_decide_eq_false hs
    go_enter Tryd.func59, Tryd.ntmps59
    go_wp2_with fail
    refine (CL.out _).mono ?_
    rintro e w1 ⟨rfl, hb1⟩
    go_wp2_with fail
    go_ret
    exact ⟨ret_bool E.out.symm, (HB.out.next hb1).1⟩
  | true =>
    have E : Hid (fitB x4 n0 n1 = decide (x4 + (n1 : Int) ≤ 65535)) := hide (by unfold fitB; rw [hs]; rfl)
    have hs' := of_decide_eq_true hs
    go_enter Tryd.func59, Tryd.ntmps59
    go_wp2_with fail
    refine (CL.out _).mono ?_
    rintro e w1 ⟨rfl, hb1⟩
    have HB1 := hide (HB.out.next hb1)
    clear k0 k1 k2 k3 k4 k5 k6 k7 k8 k9 k10 hb1
    obtain ⟨_, _, k0, k1, k2, k3, k4, k5, k6, k7, k8, k9, k10⟩ := HB1.out
    go_wp2_with fail
    refine (CW.out _).mono ?_
    rintro e w2 ⟨rfl, rfl⟩
    go_wp2_with fail
    go_ret
    exact ⟨ret_bool E.out.symm, HB1.out.1⟩
set_option maxHeartbeats 1000000 in
theorem fitsInBytes_any (x0 x1 : Int) (x2 x3 : Bool) (x4 x5 x6 x7 x8 : Int) (a0 : Option Addr) (n0 c0 : Nat) (a1 : Option Addr) (n1 c1 : Nat) (w : World) (m0 : n0 ≤ 1048576) (m1 : n1 ≤ 1048576) :
    Calls Tryd.prog 59 #[.agg #[.int .i64 x0, .int .i64 x1, .bool x2, .bool x3, .int .i64 x4, .int .i64 x5, .int .i64 x6, .int .i64 x7, .int .i64 x8, .slice a0 n0 c0, .slice a1 n1 c1]] w fun e w' => (∃ b : Bool, e = .returned (.bool b)) ∧ Below w.heap.size w w' := by
  have HB := hide (BoxPacket.start w x0 x1 x2 x3 x4 x5 x6 x7 x8 (.slice a0 n0 c0) (.slice a1 n1 c1) 47)
  have CL := hide (fun W => headAndPayload_walk x0 x1 x2 x3 x4 x5 x6 x7 x8 a0 n0 c0 a1 n1 c1 W m0 m1)
  have CW := hide (fun W => within_any x4 a1 n1 c1 W)
  obtain ⟨_, _, k0, k1, k2, k3, k4, k5, k6, k7, k8, k9, k10⟩ := HB.out
  by_cases hs : 20 + (n0 : Int) + (n1 : Int) ≤ 65535
  · go_enter Tryd.func59, Tryd.ntmps59
    go_wp2_with fail
    refine (CL.out _).mono ?_
    rintro e w1 ⟨rfl, hb1⟩
    have HB1 := hide (HB.out.next hb1)
    clear k0 k1 k2 k3 k4 k5 k6 k7 k8 k9 k10 hb1
    obtain ⟨_, _, k0, k1, k2, k3, k4, k5, k6, k7, k8, k9, k10⟩ := HB1.out
    go_wp2_with fail
    refine (CW.out _).mono ?_
    rintro e w2 ⟨⟨wb, rfl⟩, rfl⟩
    go_wp2_with fail
    go_ret
    exact ⟨⟨_, rfl⟩, HB1.out.1⟩
  · go_enter Tryd.func59, Tryd.ntmps59
    go_wp2_with fail
    refine (CL.out _).mono ?_
    rintro e w1 ⟨rfl, hb1⟩
    go_wp2_with fail
    go_ret
    first | exact ⟨⟨_, rfl⟩, (HB.out.next hb1).1⟩ | exact ⟨.inl rfl, (HB.out.next hb1).1⟩
def encB (x0 x1 x4 x5 x6 x7 x8 : Int) (n0 n1 : Nat) : Bool := pkOK x0 x1 x4 x5 x6 x7 x8 n0 && fitB x4 n0 n1
set_option maxHeartbeats 1000000 in
theorem encodes_walk (x0 x1 : Int) (x2 x3 : Bool) (x4 x5 x6 x7 x8 : Int) (a0 : Option Addr) (n0 c0 : Nat) (a1 : Option Addr) (n1 c1 : Nat) (w : World) (m0 : n0 ≤ 1048576) (m1 : n1 ≤ 1048576) :
    Calls Tryd.prog 89 #[.agg #[.int .i64 x0, .int .i64 x1, .bool x2, .bool x3, .int .i64 x4, .int .i64 x5, .int .i64 x6, .int .i64 x7, .int .i64 x8, .slice a0 n0 c0, .slice a1 n1 c1]] w fun e w' => e = .returned (.bool (encB x0 x1 x4 x5 x6 x7 x8 n0 n1)) ∧ Below w.heap.size w w' := by
  have HB := hide (BoxPacket.start w x0 x1 x2 x3 x4 x5 x6 x7 x8 (.slice a0 n0 c0) (.slice a1 n1 c1) 47)
  have CV := hide (fun W => validPacket_walk x0 x1 x2 x3 x4 x5 x6 x7 x8 a0 n0 c0 a1 n1 c1 W m0)
  obtain ⟨_, _, k0, k1, k2, k3, k4, k5, k6, k7, k8, k9, k10⟩ := HB.out
  cases h : pkOK x0 x1 x4 x5 x6 x7 x8 n0 with
  | false =>
    have E : Hid (encB x0 x1 x4 x5 x6 x7 x8 n0 n1 = false) := hide (by unfold encB; rw [h]; rfl)
    rw [h] at CV
    go_enter Tryd.func89, Tryd.ntmps89
    go_wp2_with fail
    refine (CV.out _).mono ?_
    rintro e w1 ⟨rfl, hb1⟩
    go_wp2_with fail
    go_ret
    exact ⟨ret_bool E.out.symm, (HB.out.next hb1).1⟩
  | true =>
    have E : Hid (encB x0 x1 x4 x5 x6 x7 x8 n0 n1 = fitB x4 n0 n1) := hide (by unfold encB; rw [h]; rfl)
    obtain ⟨_, _, p4, _⟩ := pkOK_parts h
    have CF := hide (fun W => fitsInBytes_walk x0 x1 x2 x3 x4 x5 x6 x7 x8 a0 n0 c0 a1 n1 c1 W m0 m1 p4.1 (by omega))
    rw [h] at CV
    clear h p4
    go_enter Tryd.func89, Tryd.ntmps89
    go_wp2_with fail
    refine (CV.out _).mono ?_
    rintro e w1 ⟨rfl, hb1⟩
    have HB1 := hide (HB.out.next hb1)
    clear k0 k1 k2 k3 k4 k5 k6 k7 k8 k9 k10 hb1
    obtain ⟨_, _, k0, k1, k2, k3, k4, k5, k6, k7, k8, k9, k10⟩ := HB1.out
    go_wp2_with fail
    refine (CF.out _).mono ?_
    rintro e w2 ⟨rfl, hb2⟩
    go_wp2_with fail
    go_ret
    exact ⟨ret_bool E.out.symm, (HB1.out.next hb2).1⟩
end Go.Proofs.YtakoagfeiolkjabDoor
