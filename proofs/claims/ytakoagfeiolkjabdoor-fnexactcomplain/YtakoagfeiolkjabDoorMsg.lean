/-
Contracts of functions of this seat.
-/
import Derived.Test.YtakoagfeiolkjabDoorRows
import Derived.WalkKit
import Derived.ProofKit
import Derived.OpenShut
import Derived.Test.YtakoagfeiolkjabDoorAns
import Derived.Test.YtakoagfeiolkjabDoorIps
import Derived.Test.YtakoagfeiolkjabDoorIce
namespace Go.Proofs.YtakoagfeiolkjabDoor
open Go.ChangeShapes Go.WideShapes Go.ChangeAt Go.RowKit
set_option linter.unusedVariables false
set_option maxRecDepth 100000
theorem fits4_walk (x : Int) (w : World) : Calls Tryd.prog 76 #[.int .i64 4, .int .i64 x] w fun e w' => e = .returned (.bool (inB x 0 4294967295)) ∧ w' = w := by
  go_enter Tryd.func76, Tryd.ntmps76
  go_wp2
  go_ret
  exact ⟨ret_bool (fits_eq x 4294967296 4294967295 (by omega) (by omega)), rfl⟩
set_option maxHeartbeats 2000000 in
theorem validIcmp_walk (t c r : Int) (a : Option Addr) (n cap : Nat) (w : World) : Calls Tryd.prog 42 #[.agg #[.int .i64 t, .int .i64 c, .int .i64 r, .slice a n cap]] w fun e w' => e = .returned (.bool (icOK t c r)) ∧ Below w.heap.size w w' := by
  have HB := hide (BoxIcmp.start w t c r (.slice a n cap) 28)
  obtain ⟨_, _, k0, k1, k2, k3⟩ := HB.out
  cases h0 : inB t 0 255 with
  | false =>
    have E : Hid (icOK t c r = false) := hide (by unfold icOK; rw [h0]; rfl)
    go_enter Tryd.func42, Tryd.ntmps42
    go_wp2_with (first | (go_at_call_of 76 (Value.int IntKind.i64 1); refine (fits1_walk _ _).mono ?_; rintro e w' ⟨rfl, rfl⟩) | (go_at_call_of 76 (Value.int IntKind.i64 4); refine (fits4_walk _ _).mono ?_; rintro e w' ⟨rfl, rfl⟩))
    go_ret
    exact ⟨ret_bool E.out.symm, HB.out.1⟩
  | true =>
    cases h1 : inB c 0 255 with
    | false =>
      have E : Hid (icOK t c r = false) := hide (by unfold icOK; rw [h0, h1]; rfl)
      go_enter Tryd.func42, Tryd.ntmps42
      go_wp2_with (first | (go_at_call_of 76 (Value.int IntKind.i64 1); refine (fits1_walk _ _).mono ?_; rintro e w' ⟨rfl, rfl⟩) | (go_at_call_of 76 (Value.int IntKind.i64 4); refine (fits4_walk _ _).mono ?_; rintro e w' ⟨rfl, rfl⟩))
      go_ret
      exact ⟨ret_bool E.out.symm, HB.out.1⟩
    | true =>
      cases h2 : inB r 0 4294967295 with
      | false =>
        have E : Hid (icOK t c r = false) := hide (by unfold icOK; rw [h0, h1, h2]; rfl)
        go_enter Tryd.func42, Tryd.ntmps42
        go_wp2_with (first | (go_at_call_of 76 (Value.int IntKind.i64 1); refine (fits1_walk _ _).mono ?_; rintro e w' ⟨rfl, rfl⟩) | (go_at_call_of 76 (Value.int IntKind.i64 4); refine (fits4_walk _ _).mono ?_; rintro e w' ⟨rfl, rfl⟩))
        go_ret
        exact ⟨ret_bool E.out.symm, HB.out.1⟩
      | true =>
        have E : Hid (icOK t c r = true) := hide (by unfold icOK; rw [h0, h1, h2]; rfl)
        go_enter Tryd.func42, Tryd.ntmps42
        go_wp2_with (first | (go_at_call_of 76 (Value.int IntKind.i64 1); refine (fits1_walk _ _).mono ?_; rintro e w' ⟨rfl, rfl⟩) | (go_at_call_of 76 (Value.int IntKind.i64 4); refine (fits4_walk _ _).mono ?_; rintro e w' ⟨rfl, rfl⟩))
        go_ret
        exact ⟨ret_bool E.out.symm, HB.out.1⟩
/-- The message of an Icmp, behind its interface. -/
def msgV (t c r : Int) (v : Value) : Value :=
  if t = 8 then .iface 101 (.agg #[.int .i64 c, .int .i64 r, v])
  else if t = 0 then .iface 102 (.agg #[.int .i64 c, .int .i64 r, v])
  else if t = 3 then .iface 103 (.agg #[.int .i64 c, .int .i64 r, v])
  else if t = 11 then .iface 104 (.agg #[.int .i64 c, .int .i64 r, v])
  else .iface 106 (.agg #[.int .i64 t, .int .i64 c, .int .i64 r, v])
def aboutN (t : Int) : Int := if t = 8 then 1 else if t = 0 then 1 else if t = 3 then 2 else if t = 11 then 2 else 0
set_option maxHeartbeats 4000000 in
theorem messageOf_walk (t c r : Int) (a : Option Addr) (n cap : Nat) (w : World) : Calls Tryd.prog 43 #[.agg #[.int .i64 t, .int .i64 c, .int .i64 r, .slice a n cap]] w fun e w' => e = .returned (msgV t c r (.slice a n cap)) ∧ Below w.heap.size w w' := by
  by_cases h1 : t = 8
  · subst h1
    go_enter Tryd.func43, Tryd.ntmps43
    go_wp2
    go_ret
    exact ⟨rfl, (two_allocs w _ _).1⟩
  by_cases h2 : t = 0
  · subst h2
    go_enter Tryd.func43, Tryd.ntmps43
    go_wp2
    go_ret
    exact ⟨rfl, (two_allocs w _ _).1⟩
  by_cases h3 : t = 3
  · subst h3
    go_enter Tryd.func43, Tryd.ntmps43
    go_wp2
    go_ret
    exact ⟨rfl, (two_allocs w _ _).1⟩
  by_cases h4 : t = 11
  · subst h4
    go_enter Tryd.func43, Tryd.ntmps43
    go_wp2
    go_ret
    exact ⟨rfl, (two_allocs w _ _).1⟩
  have E : Hid (msgV t c r (.slice a n cap) = .iface 106 (.agg #[.int .i64 t, .int .i64 c, .int .i64 r, .slice a n cap])) := hide (by unfold msgV; rw [if_neg h1, if_neg h2, if_neg h3, if_neg h4])
  rw [E.out]
  go_enter Tryd.func43, Tryd.ntmps43
  go_wp2
  go_ret
  exact ⟨rfl, (two_allocs w _ _).1⟩
theorem ta_echo_echo (V : Value) (w : World) : (Instr.typeAssert (.iface 101 V) 73 101 true).run Tryd.prog w = .ok (.tuple #[V, .bool true]) w := by kernel_rfl
theorem ta_echo_echoReply (V : Value) (w : World) : (Instr.typeAssert (.iface 101 V) 73 102 true).run Tryd.prog w = .ok (.tuple #[.agg #[.int .i64 0, .int .i64 0, .slice none 0 0], .bool false]) w := by kernel_rfl
theorem ta_echo_unreachable (V : Value) (w : World) : (Instr.typeAssert (.iface 101 V) 73 103 true).run Tryd.prog w = .ok (.tuple #[.agg #[.int .i64 0, .int .i64 0, .slice none 0 0], .bool false]) w := by kernel_rfl
theorem ta_echo_exceeded (V : Value) (w : World) : (Instr.typeAssert (.iface 101 V) 73 104 true).run Tryd.prog w = .ok (.tuple #[.agg #[.int .i64 0, .int .i64 0, .slice none 0 0], .bool false]) w := by kernel_rfl
theorem ta_echoReply_echo (V : Value) (w : World) : (Instr.typeAssert (.iface 102 V) 73 101 true).run Tryd.prog w = .ok (.tuple #[.agg #[.int .i64 0, .int .i64 0, .slice none 0 0], .bool false]) w := by kernel_rfl
theorem ta_echoReply_echoReply (V : Value) (w : World) : (Instr.typeAssert (.iface 102 V) 73 102 true).run Tryd.prog w = .ok (.tuple #[V, .bool true]) w := by kernel_rfl
theorem ta_echoReply_unreachable (V : Value) (w : World) : (Instr.typeAssert (.iface 102 V) 73 103 true).run Tryd.prog w = .ok (.tuple #[.agg #[.int .i64 0, .int .i64 0, .slice none 0 0], .bool false]) w := by kernel_rfl
theorem ta_echoReply_exceeded (V : Value) (w : World) : (Instr.typeAssert (.iface 102 V) 73 104 true).run Tryd.prog w = .ok (.tuple #[.agg #[.int .i64 0, .int .i64 0, .slice none 0 0], .bool false]) w := by kernel_rfl
theorem ta_unreachable_echo (V : Value) (w : World) : (Instr.typeAssert (.iface 103 V) 73 101 true).run Tryd.prog w = .ok (.tuple #[.agg #[.int .i64 0, .int .i64 0, .slice none 0 0], .bool false]) w := by kernel_rfl
theorem ta_unreachable_echoReply (V : Value) (w : World) : (Instr.typeAssert (.iface 103 V) 73 102 true).run Tryd.prog w = .ok (.tuple #[.agg #[.int .i64 0, .int .i64 0, .slice none 0 0], .bool false]) w := by kernel_rfl
theorem ta_unreachable_unreachable (V : Value) (w : World) : (Instr.typeAssert (.iface 103 V) 73 103 true).run Tryd.prog w = .ok (.tuple #[V, .bool true]) w := by kernel_rfl
theorem ta_unreachable_exceeded (V : Value) (w : World) : (Instr.typeAssert (.iface 103 V) 73 104 true).run Tryd.prog w = .ok (.tuple #[.agg #[.int .i64 0, .int .i64 0, .slice none 0 0], .bool false]) w := by kernel_rfl
theorem ta_exceeded_echo (V : Value) (w : World) : (Instr.typeAssert (.iface 104 V) 73 101 true).run Tryd.prog w = .ok (.tuple #[.agg #[.int .i64 0, .int .i64 0, .slice none 0 0], .bool false]) w := by kernel_rfl
theorem ta_exceeded_echoReply (V : Value) (w : World) : (Instr.typeAssert (.iface 104 V) 73 102 true).run Tryd.prog w = .ok (.tuple #[.agg #[.int .i64 0, .int .i64 0, .slice none 0 0], .bool false]) w := by kernel_rfl
theorem ta_exceeded_unreachable (V : Value) (w : World) : (Instr.typeAssert (.iface 104 V) 73 103 true).run Tryd.prog w = .ok (.tuple #[.agg #[.int .i64 0, .int .i64 0, .slice none 0 0], .bool false]) w := by kernel_rfl
theorem ta_exceeded_exceeded (V : Value) (w : World) : (Instr.typeAssert (.iface 104 V) 73 104 true).run Tryd.prog w = .ok (.tuple #[V, .bool true]) w := by kernel_rfl
theorem ta_foreign_echo (V : Value) (w : World) : (Instr.typeAssert (.iface 106 V) 73 101 true).run Tryd.prog w = .ok (.tuple #[.agg #[.int .i64 0, .int .i64 0, .slice none 0 0], .bool false]) w := by kernel_rfl
theorem ta_foreign_echoReply (V : Value) (w : World) : (Instr.typeAssert (.iface 106 V) 73 102 true).run Tryd.prog w = .ok (.tuple #[.agg #[.int .i64 0, .int .i64 0, .slice none 0 0], .bool false]) w := by kernel_rfl
theorem ta_foreign_unreachable (V : Value) (w : World) : (Instr.typeAssert (.iface 106 V) 73 103 true).run Tryd.prog w = .ok (.tuple #[.agg #[.int .i64 0, .int .i64 0, .slice none 0 0], .bool false]) w := by kernel_rfl
theorem ta_foreign_exceeded (V : Value) (w : World) : (Instr.typeAssert (.iface 106 V) 73 104 true).run Tryd.prog w = .ok (.tuple #[.agg #[.int .i64 0, .int .i64 0, .slice none 0 0], .bool false]) w := by kernel_rfl
set_option maxHeartbeats 4000000 in
theorem aboutWhat_walk (t c r : Int) (v : Value) (w : World) : Calls Tryd.prog 74 #[msgV t c r v] w fun e w' => e = .returned (.int .i64 (aboutN t)) ∧ w' = w := by
  by_cases h8 : t = 8
  · subst h8
    show Calls Tryd.prog 74 #[.iface 101 (.agg #[.int .i64 c, .int .i64 r, v])] w fun e w' => e = .returned (.int .i64 1) ∧ w' = w
    have a0 := ta_echo_echo
    have a1 := ta_echo_echoReply
    have a2 := ta_echo_unreachable
    have a3 := ta_echo_exceeded
    go_enter Tryd.func74, Tryd.ntmps74
    go_wp2
    go_ret
    exact ⟨rfl, rfl⟩
  by_cases h0 : t = 0
  · subst h0
    show Calls Tryd.prog 74 #[.iface 102 (.agg #[.int .i64 c, .int .i64 r, v])] w fun e w' => e = .returned (.int .i64 1) ∧ w' = w
    have a0 := ta_echoReply_echo
    have a1 := ta_echoReply_echoReply
    have a2 := ta_echoReply_unreachable
    have a3 := ta_echoReply_exceeded
    go_enter Tryd.func74, Tryd.ntmps74
    go_wp2
    go_ret
    exact ⟨rfl, rfl⟩
  by_cases h3 : t = 3
  · subst h3
    show Calls Tryd.prog 74 #[.iface 103 (.agg #[.int .i64 c, .int .i64 r, v])] w fun e w' => e = .returned (.int .i64 2) ∧ w' = w
    have a0 := ta_unreachable_echo
    have a1 := ta_unreachable_echoReply
    have a2 := ta_unreachable_unreachable
    have a3 := ta_unreachable_exceeded
    go_enter Tryd.func74, Tryd.ntmps74
    go_wp2
    go_ret
    exact ⟨rfl, rfl⟩
  by_cases h11 : t = 11
  · subst h11
    show Calls Tryd.prog 74 #[.iface 104 (.agg #[.int .i64 c, .int .i64 r, v])] w fun e w' => e = .returned (.int .i64 2) ∧ w' = w
    have a0 := ta_exceeded_echo
    have a1 := ta_exceeded_echoReply
    have a2 := ta_exceeded_unreachable
    have a3 := ta_exceeded_exceeded
    go_enter Tryd.func74, Tryd.ntmps74
    go_wp2
    go_ret
    exact ⟨rfl, rfl⟩
  have E : msgV t c r v = .iface 106 (.agg #[.int .i64 t, .int .i64 c, .int .i64 r, v]) := by unfold msgV; rw [if_neg h8, if_neg h0, if_neg h3, if_neg h11]
  have E2 : aboutN t = 0 := by unfold aboutN; rw [if_neg h8, if_neg h0, if_neg h3, if_neg h11]
  rw [E, E2]
  have a0 := ta_foreign_echo
  have a1 := ta_foreign_echoReply
  have a2 := ta_foreign_unreachable
  have a3 := ta_foreign_exceeded
  go_enter Tryd.func74, Tryd.ntmps74
  go_wp2
  go_ret
  exact ⟨rfl, rfl⟩
end Go.Proofs.YtakoagfeiolkjabDoor
