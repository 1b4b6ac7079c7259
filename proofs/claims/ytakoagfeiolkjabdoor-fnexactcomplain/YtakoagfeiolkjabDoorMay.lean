/-
Contracts of functions of this seat.
-/
import Derived.Test.YtakoagfeiolkjabDoorRows
import Derived.WalkKit
import Derived.ProofKit
import Derived.OpenShut
import Derived.Test.YtakoagfeiolkjabDoorIpe
import Derived.Test.YtakoagfeiolkjabDoorAkd
import Derived.Test.YtakoagfeiolkjabDoorLma
namespace Go.Proofs.YtakoagfeiolkjabDoor
open Go.ChangeShapes Go.WideShapes Go.ChangeAt Go.RowKit
set_option linter.unusedVariables false
set_option maxRecDepth 100000
set_option maxHeartbeats 2000000 in
theorem specMay_enc (x0 x1 : Int) (x2 x3 : Bool) (x4 x5 x6 x7 x8 : Int) (a0 : Option Addr) (n0 c0 : Nat) (a1 : Option Addr) (n1 c1 : Nat) (C : Int) (w : World) (hC : ¬ C = 0)
   (cE : ∀ W, Below w.heap.size w W → Calls Tryd.prog 24 #[.agg #[.int .i64 x0, .int .i64 x1, .bool x2, .bool x3, .int .i64 x4, .int .i64 x5, .int .i64 x6, .int .i64 x7, .int .i64 x8, .slice a0 n0 c0, .slice a1 n1 c1]] W fun e w' => ∃ v, e = .returned (.tuple #[v, .int .i64 C]) ∧ Below W.heap.size W w') :
    Calls Tryd.prog 71 #[.agg #[.int .i64 x0, .int .i64 x1, .bool x2, .bool x3, .int .i64 x4, .int .i64 x5, .int .i64 x6, .int .i64 x7, .int .i64 x8, .slice a0 n0 c0, .slice a1 n1 c1]] w fun e w' => e = .returned (.bool false) ∧ Below w.heap.size w w' := by
  have HB := hide (BoxPacket.start w x0 x1 x2 x3 x4 x5 x6 x7 x8 (.slice a0 n0 c0) (.slice a1 n1 c1) 47)
  have CE := hide cE
  clear cE
  obtain ⟨_, _, k0, k1, k2, k3, k4, k5, k6, k7, k8, k9, k10⟩ := HB.out
  go_enter Tryd.func71, Tryd.ntmps71
  go_wp2_with fail
  refine (CE.out _ HB.out.1).mono ?_
  rintro e w1 ⟨v, rfl, hb1⟩
  have HB1 := hide (HB.out.next hb1)
  clear k0 k1 k2 k3 k4 k5 k6 k7 k8 k9 k10 hb1
  obtain ⟨_, _, k0, k1, k2, k3, k4, k5, k6, k7, k8, k9, k10⟩ := HB1.out
  go_wp2_with fail
  go_ret
  exact ⟨rfl, HB1.out.1⟩
set_option maxHeartbeats 2000000 in
theorem specMay_off (x0 x1 : Int) (x2 x3 : Bool) (x4 x5 x6 x7 x8 : Int) (a0 : Option Addr) (n0 c0 : Nat) (a1 : Option Addr) (n1 c1 : Nat) (C : Int) (w : World) (hC : C = 0) (h : ¬ x4 = 0)
   (cE : ∀ W, Below w.heap.size w W → Calls Tryd.prog 24 #[.agg #[.int .i64 x0, .int .i64 x1, .bool x2, .bool x3, .int .i64 x4, .int .i64 x5, .int .i64 x6, .int .i64 x7, .int .i64 x8, .slice a0 n0 c0, .slice a1 n1 c1]] W fun e w' => ∃ v, e = .returned (.tuple #[v, .int .i64 C]) ∧ Below W.heap.size W w') :
    Calls Tryd.prog 71 #[.agg #[.int .i64 x0, .int .i64 x1, .bool x2, .bool x3, .int .i64 x4, .int .i64 x5, .int .i64 x6, .int .i64 x7, .int .i64 x8, .slice a0 n0 c0, .slice a1 n1 c1]] w fun e w' => e = .returned (.bool false) ∧ Below w.heap.size w w' := by
  have HB := hide (BoxPacket.start w x0 x1 x2 x3 x4 x5 x6 x7 x8 (.slice a0 n0 c0) (.slice a1 n1 c1) 47)
  have CE := hide cE
  clear cE
  obtain ⟨_, _, k0, k1, k2, k3, k4, k5, k6, k7, k8, k9, k10⟩ := HB.out
  subst hC
  go_enter Tryd.func71, Tryd.ntmps71
  go_wp2_with fail
  refine (CE.out _ HB.out.1).mono ?_
  rintro e w1 ⟨v, rfl, hb1⟩
  have HB1 := hide (HB.out.next hb1)
  clear k0 k1 k2 k3 k4 k5 k6 k7 k8 k9 k10 hb1
  obtain ⟨_, _, k0, k1, k2, k3, k4, k5, k6, k7, k8, k9, k10⟩ := HB1.out
  go_wp2_with fail
  go_ret
  exact ⟨rfl, HB1.out.1⟩
set_option maxHeartbeats 2000000 in
theorem specMay_src (x0 x1 : Int) (x2 x3 : Bool) (x4 x5 x6 x7 x8 : Int) (a0 : Option Addr) (n0 c0 : Nat) (a1 : Option Addr) (n1 c1 : Nat) (C : Int) (w : World) (hC : C = 0) (h : x4 = 0) (h7 : adrB x7 = true) (h8 : adrB x8 = true) (hk : ¬ kind x7 = 6)
   (cE : ∀ W, Below w.heap.size w W → Calls Tryd.prog 24 #[.agg #[.int .i64 x0, .int .i64 x1, .bool x2, .bool x3, .int .i64 x4, .int .i64 x5, .int .i64 x6, .int .i64 x7, .int .i64 x8, .slice a0 n0 c0, .slice a1 n1 c1]] W fun e w' => ∃ v, e = .returned (.tuple #[v, .int .i64 C]) ∧ Below W.heap.size W w') :
    Calls Tryd.prog 71 #[.agg #[.int .i64 x0, .int .i64 x1, .bool x2, .bool x3, .int .i64 x4, .int .i64 x5, .int .i64 x6, .int .i64 x7, .int .i64 x8, .slice a0 n0 c0, .slice a1 n1 c1]] w fun e w' => e = .returned (.bool false) ∧ Below w.heap.size w w' := by
  have HB := hide (BoxPacket.start w x0 x1 x2 x3 x4 x5 x6 x7 x8 (.slice a0 n0 c0) (.slice a1 n1 c1) 47)
  have CE := hide cE
  clear cE
  obtain ⟨_, _, k0, k1, k2, k3, k4, k5, k6, k7, k8, k9, k10⟩ := HB.out
  have CK7 := hide (fun W => specKind_yes x7 W h7)
  have CK8 := hide (fun W => specKind_yes x8 W h8)
  generalize kind x7 = K7 at *
  subst hC h
  clear h7 h8
  go_enter Tryd.func71, Tryd.ntmps71
  go_wp2_with fail
  refine (CE.out _ HB.out.1).mono ?_
  rintro e w1 ⟨v, rfl, hb1⟩
  have HB1 := hide (HB.out.next hb1)
  clear k0 k1 k2 k3 k4 k5 k6 k7 k8 k9 k10 hb1
  obtain ⟨_, _, k0, k1, k2, k3, k4, k5, k6, k7, k8, k9, k10⟩ := HB1.out
  go_wp2_with (first | (go_at_call_of 88 (Value.int IntKind.i64 x7); refine (CK7.out _).mono ?_; rintro e w' ⟨rfl, rfl⟩) | (go_at_call_of 88 (Value.int IntKind.i64 x8); refine (CK8.out _).mono ?_; rintro e w' ⟨rfl, rfl⟩))
  go_ret
  exact ⟨rfl, HB1.out.1⟩
set_option maxHeartbeats 2000000 in
theorem specMay_dst (x0 x1 : Int) (x2 x3 : Bool) (x4 x5 x6 x7 x8 : Int) (a0 : Option Addr) (n0 c0 : Nat) (a1 : Option Addr) (n1 c1 : Nat) (C : Int) (w : World) (hC : C = 0) (h : x4 = 0) (h7 : adrB x7 = true) (h8 : adrB x8 = true) (hk7 : kind x7 = 6) (hk : ¬ kind x8 = 6)
   (cE : ∀ W, Below w.heap.size w W → Calls Tryd.prog 24 #[.agg #[.int .i64 x0, .int .i64 x1, .bool x2, .bool x3, .int .i64 x4, .int .i64 x5, .int .i64 x6, .int .i64 x7, .int .i64 x8, .slice a0 n0 c0, .slice a1 n1 c1]] W fun e w' => ∃ v, e = .returned (.tuple #[v, .int .i64 C]) ∧ Below W.heap.size W w') :
    Calls Tryd.prog 71 #[.agg #[.int .i64 x0, .int .i64 x1, .bool x2, .bool x3, .int .i64 x4, .int .i64 x5, .int .i64 x6, .int .i64 x7, .int .i64 x8, .slice a0 n0 c0, .slice a1 n1 c1]] w fun e w' => e = .returned (.bool false) ∧ Below w.heap.size w w' := by
  have HB := hide (BoxPacket.start w x0 x1 x2 x3 x4 x5 x6 x7 x8 (.slice a0 n0 c0) (.slice a1 n1 c1) 47)
  have CE := hide cE
  clear cE
  obtain ⟨_, _, k0, k1, k2, k3, k4, k5, k6, k7, k8, k9, k10⟩ := HB.out
  have CK7 := hide (fun W => specKind_yes x7 W h7)
  have CK8 := hide (fun W => specKind_yes x8 W h8)
  rw [hk7] at CK7
  generalize kind x8 = K8 at *
  subst hC h
  clear h7 h8 hk7
  go_enter Tryd.func71, Tryd.ntmps71
  go_wp2_with fail
  refine (CE.out _ HB.out.1).mono ?_
  rintro e w1 ⟨v, rfl, hb1⟩
  have HB1 := hide (HB.out.next hb1)
  clear k0 k1 k2 k3 k4 k5 k6 k7 k8 k9 k10 hb1
  obtain ⟨_, _, k0, k1, k2, k3, k4, k5, k6, k7, k8, k9, k10⟩ := HB1.out
  go_wp2_with (first | (go_at_call_of 88 (Value.int IntKind.i64 x7); refine (CK7.out _).mono ?_; rintro e w' ⟨rfl, rfl⟩) | (go_at_call_of 88 (Value.int IntKind.i64 x8); refine (CK8.out _).mono ?_; rintro e w' ⟨rfl, rfl⟩))
  go_ret
  exact ⟨rfl, HB1.out.1⟩
set_option maxHeartbeats 2000000 in
theorem specMay_other (x0 x1 : Int) (x2 x3 : Bool) (x4 x5 x6 x7 x8 : Int) (a0 : Option Addr) (n0 c0 : Nat) (a1 : Option Addr) (n1 c1 : Nat) (C : Int) (w : World) (hC : C = 0) (h : x4 = 0) (h7 : adrB x7 = true) (h8 : adrB x8 = true) (hk7 : kind x7 = 6) (hk8 : kind x8 = 6) (h6 : ¬ x6 = 1)
   (cE : ∀ W, Below w.heap.size w W → Calls Tryd.prog 24 #[.agg #[.int .i64 x0, .int .i64 x1, .bool x2, .bool x3, .int .i64 x4, .int .i64 x5, .int .i64 x6, .int .i64 x7, .int .i64 x8, .slice a0 n0 c0, .slice a1 n1 c1]] W fun e w' => ∃ v, e = .returned (.tuple #[v, .int .i64 C]) ∧ Below W.heap.size W w') :
    Calls Tryd.prog 71 #[.agg #[.int .i64 x0, .int .i64 x1, .bool x2, .bool x3, .int .i64 x4, .int .i64 x5, .int .i64 x6, .int .i64 x7, .int .i64 x8, .slice a0 n0 c0, .slice a1 n1 c1]] w fun e w' => e = .returned (.bool true) ∧ Below w.heap.size w w' := by
  have HB := hide (BoxPacket.start w x0 x1 x2 x3 x4 x5 x6 x7 x8 (.slice a0 n0 c0) (.slice a1 n1 c1) 47)
  have CE := hide cE
  clear cE
  obtain ⟨_, _, k0, k1, k2, k3, k4, k5, k6, k7, k8, k9, k10⟩ := HB.out
  have CK7 := hide (fun W => specKind_yes x7 W h7)
  have CK8 := hide (fun W => specKind_yes x8 W h8)
  rw [hk7] at CK7
  rw [hk8] at CK8
  subst hC h
  clear h7 h8 hk7 hk8
  go_enter Tryd.func71, Tryd.ntmps71
  go_wp2_with fail
  refine (CE.out _ HB.out.1).mono ?_
  rintro e w1 ⟨v, rfl, hb1⟩
  have HB1 := hide (HB.out.next hb1)
  clear k0 k1 k2 k3 k4 k5 k6 k7 k8 k9 k10 hb1
  obtain ⟨_, _, k0, k1, k2, k3, k4, k5, k6, k7, k8, k9, k10⟩ := HB1.out
  go_wp2_with (first | (go_at_call_of 88 (Value.int IntKind.i64 x7); refine (CK7.out _).mono ?_; rintro e w' ⟨rfl, rfl⟩) | (go_at_call_of 88 (Value.int IntKind.i64 x8); refine (CK8.out _).mono ?_; rintro e w' ⟨rfl, rfl⟩))
  go_ret
  exact ⟨rfl, HB1.out.1⟩
set_option maxHeartbeats 2000000 in
theorem specMay_none (x0 x1 : Int) (x2 x3 : Bool) (x4 x5 x6 x7 x8 : Int) (a0 : Option Addr) (n0 c0 : Nat) (a1 : Option Addr) (n1 c1 : Nat) (C : Int) (w : World) (hC : C = 0) (h : x4 = 0) (h7 : adrB x7 = true) (h8 : adrB x8 = true) (hk7 : kind x7 = 6) (hk8 : kind x8 = 6) (h6 : x6 = 1) (h1 : n1 = 0)
   (cE : ∀ W, Below w.heap.size w W → Calls Tryd.prog 24 #[.agg #[.int .i64 x0, .int .i64 x1, .bool x2, .bool x3, .int .i64 x4, .int .i64 x5, .int .i64 x6, .int .i64 x7, .int .i64 x8, .slice a0 n0 c0, .slice a1 n1 c1]] W fun e w' => ∃ v, e = .returned (.tuple #[v, .int .i64 C]) ∧ Below W.heap.size W w') :
    Calls Tryd.prog 71 #[.agg #[.int .i64 x0, .int .i64 x1, .bool x2, .bool x3, .int .i64 x4, .int .i64 x5, .int .i64 x6, .int .i64 x7, .int .i64 x8, .slice a0 n0 c0, .slice a1 n1 c1]] w fun e w' => e = .returned (.bool false) ∧ Below w.heap.size w w' := by
  have HB := hide (BoxPacket.start w x0 x1 x2 x3 x4 x5 x6 x7 x8 (.slice a0 n0 c0) (.slice a1 n1 c1) 47)
  have CE := hide cE
  clear cE
  obtain ⟨_, _, k0, k1, k2, k3, k4, k5, k6, k7, k8, k9, k10⟩ := HB.out
  have CK7 := hide (fun W => specKind_yes x7 W h7)
  have CK8 := hide (fun W => specKind_yes x8 W h8)
  rw [hk7] at CK7
  rw [hk8] at CK8
  subst hC h h6 h1
  clear h7 h8 hk7 hk8
  go_enter Tryd.func71, Tryd.ntmps71
  go_wp2_with fail
  refine (CE.out _ HB.out.1).mono ?_
  rintro e w1 ⟨v, rfl, hb1⟩
  have HB1 := hide (HB.out.next hb1)
  clear k0 k1 k2 k3 k4 k5 k6 k7 k8 k9 k10 hb1
  obtain ⟨_, _, k0, k1, k2, k3, k4, k5, k6, k7, k8, k9, k10⟩ := HB1.out
  go_wp2_with (first | (go_at_call_of 88 (Value.int IntKind.i64 x7); refine (CK7.out _).mono ?_; rintro e w' ⟨rfl, rfl⟩) | (go_at_call_of 88 (Value.int IntKind.i64 x8); refine (CK8.out _).mono ?_; rintro e w' ⟨rfl, rfl⟩))
  go_ret
  exact ⟨rfl, HB1.out.1⟩
set_option maxHeartbeats 2000000 in
theorem specMay_icmp (x0 x1 : Int) (x2 x3 : Bool) (x4 x5 x6 x7 x8 : Int) (a0 : Option Addr) (n0 c0 : Nat) (a1 : Option Addr) (n1 c1 : Nat) (C : Int) (w : World) (hC : C = 0) (h : x4 = 0) (h7 : adrB x7 = true) (h8 : adrB x8 = true) (hk7 : kind x7 = 6) (hk8 : kind x8 = 6) (h6 : x6 = 1) (h1 : 0 < n1) (hm : n1 ≤ 1048576) (b off : Nat) (y : Int) (ha : a1 = some ⟨b, off, none⟩) (hlt : b < w.heap.size) (hc : w.cell? ⟨b, off, none⟩ = some (.int .u8 y))
   (cE : ∀ W, Below w.heap.size w W → Calls Tryd.prog 24 #[.agg #[.int .i64 x0, .int .i64 x1, .bool x2, .bool x3, .int .i64 x4, .int .i64 x5, .int .i64 x6, .int .i64 x7, .int .i64 x8, .slice a0 n0 c0, .slice a1 n1 c1]] W fun e w' => ∃ v, e = .returned (.tuple #[v, .int .i64 C]) ∧ Below W.heap.size W w') :
    Calls Tryd.prog 71 #[.agg #[.int .i64 x0, .int .i64 x1, .bool x2, .bool x3, .int .i64 x4, .int .i64 x5, .int .i64 x6, .int .i64 x7, .int .i64 x8, .slice a0 n0 c0, .slice a1 n1 c1]] w fun e w' => e = .returned (.bool (y == 8 || y == 0)) ∧ Below w.heap.size w w' := by
  have HB := hide (BoxPacket.start w x0 x1 x2 x3 x4 x5 x6 x7 x8 (.slice a0 n0 c0) (.slice a1 n1 c1) 47)
  have CE := hide cE
  clear cE
  obtain ⟨_, _, k0, k1, k2, k3, k4, k5, k6, k7, k8, k9, k10⟩ := HB.out
  have CK7 := hide (fun W => specKind_yes x7 W h7)
  have CK8 := hide (fun W => specKind_yes x8 W h8)
  rw [hk7] at CK7
  rw [hk8] at CK8
  subst hC h h6 ha
  clear h7 h8 hk7 hk8
  by_cases hy : y = 8
  · subst hy
    go_enter Tryd.func71, Tryd.ntmps71
    go_wp2_with fail
    refine (CE.out _ HB.out.1).mono ?_
    rintro e w1 ⟨v, rfl, hb1⟩
    have HB1 := hide (HB.out.next hb1)
    clear k0 k1 k2 k3 k4 k5 k6 k7 k8 k9 k10 hb1
    obtain ⟨_, _, k0, k1, k2, k3, k4, k5, k6, k7, k8, k9, k10⟩ := HB1.out
    have hcc : w1.cell? ⟨b, off, none⟩ = some (.int .u8 8) := by rw [HB1.out.1.cell (p := ⟨b, off, none⟩) hlt]; exact hc
    clear hc
    go_wp2_with (first | (go_at_call_of 88 (Value.int IntKind.i64 x7); refine (CK7.out _).mono ?_; rintro e w' ⟨rfl, rfl⟩) | (go_at_call_of 88 (Value.int IntKind.i64 x8); refine (CK8.out _).mono ?_; rintro e w' ⟨rfl, rfl⟩))
    go_ret
    exact ⟨rfl, HB1.out.1⟩
  · have E : Hid ((y == 8 || y == 0) = (y == 0)) := hide (by rw [beq_eq_false_iff_ne.2 hy, Bool.false_or])
    have hy2 : (y == 8) = false := beq_eq_false_iff_ne.2 hy
    go_enter Tryd.func71, Tryd.ntmps71
    go_wp2_with fail
    refine (CE.out _ HB.out.1).mono ?_
    rintro e w1 ⟨v, rfl, hb1⟩
    have HB1 := hide (HB.out.next hb1)
    clear k0 k1 k2 k3 k4 k5 k6 k7 k8 k9 k10 hb1
    obtain ⟨_, _, k0, k1, k2, k3, k4, k5, k6, k7, k8, k9, k10⟩ := HB1.out
    have hcc : w1.cell? ⟨b, off, none⟩ = some (.int .u8 y) := by rw [HB1.out.1.cell (p := ⟨b, off, none⟩) hlt]; exact hc
    clear hc
    go_wp2_with (first | (go_at_call_of 88 (Value.int IntKind.i64 x7); refine (CK7.out _).mono ?_; rintro e w' ⟨rfl, rfl⟩) | (go_at_call_of 88 (Value.int IntKind.i64 x8); refine (CK8.out _).mono ?_; rintro e w' ⟨rfl, rfl⟩))
    go_ret
    exact ⟨ret_bool E.out.symm, HB1.out.1⟩
/-- What may be complained about. -/
def mayB (x0 x1 x4 x5 x6 x7 x8 : Int) (n0 : Nat) (z1 : List Int) : Bool := decide (ipC x0 x1 x4 x5 x6 x7 x8 n0 z1.length = 0) && decide (x4 = 0) && decide (kind x7 = 6) && decide (kind x8 = 6) && (!decide (x6 = 1) || (decide (0 < z1.length) && (z1.getD 0 0 == 8 || z1.getD 0 0 == 0)))
theorem ipC_adr {x0 x1 x4 x5 x6 x7 x8 : Int} {n0 n1 : Nat} (h : ipC x0 x1 x4 x5 x6 x7 x8 n0 n1 = 0) : pkOK x0 x1 x4 x5 x6 x7 x8 n0 = true ∧ adrB x7 = true ∧ adrB x8 = true := by
  have hok : pkOK x0 x1 x4 x5 x6 x7 x8 n0 = true := by
    cases h' : pkOK x0 x1 x4 x5 x6 x7 x8 n0 with
    | true => rfl
    | false => unfold ipC at h; rw [h'] at h; cases h
  obtain ⟨_, _, _, _, _, h7, h8, _⟩ := pkOK_parts hok
  exact ⟨hok, adrB_iff.2 h7, adrB_iff.2 h8⟩
/-- MayComplain of the model. -/
theorem specMay (x0 x1 : Int) (x2 x3 : Bool) (x4 x5 x6 x7 x8 : Int) (z0 z1 : List Int) (Pre : World → Prop) : BoolPacketP 71 Pre x0 x1 x2 x3 x4 x5 x6 x7 x8 z0 z1 (mayB x0 x1 x4 x5 x6 x7 x8 z0.length z1) := by
  intro a0 n0 c0 a1 n1 c1 W h0n h0a k0 m0 h1n h1a k1 m1 hp
  subst h0n h1n
  have cE := fun (V : World) (hb : Below W.heap.size W V) => (specEncIP x0 x1 x2 x3 x4 x5 x6 x7 x8 z0 z1 (fun _ => True) a0 _ c0 a1 _ c1 V rfl (h0a.below hb (Nat.le_refl _)) k0 m0 rfl (h1a.below hb (Nat.le_refl _)) k1 m1 trivial).mono (R' := fun e w' => ∃ v, e = .returned (.tuple #[v, .int .i64 (ipC x0 x1 x4 x5 x6 x7 x8 z0.length z1.length)]) ∧ Below V.heap.size V w') (by rintro e w' ⟨v, rfl, _, hb'⟩; exact ⟨v, rfl, hb'⟩)
  by_cases hC : ipC x0 x1 x4 x5 x6 x7 x8 z0.length z1.length = 0
  rotate_left
  · rw [show mayB x0 x1 x4 x5 x6 x7 x8 z0.length z1 = false by unfold mayB; rw [decide_eq_false hC]; rfl]
    exact specMay_enc x0 x1 x2 x3 x4 x5 x6 x7 x8 a0 _ c0 a1 _ c1 _ W hC cE
  obtain ⟨_, h7, h8⟩ := ipC_adr hC
  by_cases h4 : x4 = 0
  rotate_left
  · rw [show mayB x0 x1 x4 x5 x6 x7 x8 z0.length z1 = false by unfold mayB; rw [decide_eq_false h4]; simp]
    exact specMay_off x0 x1 x2 x3 x4 x5 x6 x7 x8 a0 _ c0 a1 _ c1 _ W hC h4 cE
  by_cases k7 : kind x7 = 6
  rotate_left
  · rw [show mayB x0 x1 x4 x5 x6 x7 x8 z0.length z1 = false by unfold mayB; rw [decide_eq_false k7]; simp]
    exact specMay_src x0 x1 x2 x3 x4 x5 x6 x7 x8 a0 _ c0 a1 _ c1 _ W hC h4 h7 h8 k7 cE
  by_cases k8 : kind x8 = 6
  rotate_left
  · rw [show mayB x0 x1 x4 x5 x6 x7 x8 z0.length z1 = false by unfold mayB; rw [decide_eq_false k8]; simp]
    exact specMay_dst x0 x1 x2 x3 x4 x5 x6 x7 x8 a0 _ c0 a1 _ c1 _ W hC h4 h7 h8 k7 k8 cE
  have e0 : mayB x0 x1 x4 x5 x6 x7 x8 z0.length z1 = (!decide (x6 = 1) || (decide (0 < z1.length) && (z1.getD 0 0 == 8 || z1.getD 0 0 == 0))) := by unfold mayB; rw [decide_eq_true hC, decide_eq_true h4, decide_eq_true k7, decide_eq_true k8]; rfl
  rw [e0]
  by_cases h6 : x6 = 1
  rotate_left
  · rw [decide_eq_false h6]
    exact specMay_other x0 x1 x2 x3 x4 x5 x6 x7 x8 a0 _ c0 a1 _ c1 _ W hC h4 h7 h8 k7 k8 h6 cE
  rw [decide_eq_true h6]
  by_cases hz : z1.length = 0
  · rw [decide_eq_false (by omega)]
    exact specMay_none x0 x1 x2 x3 x4 x5 x6 x7 x8 a0 _ c0 a1 _ c1 _ W hC h4 h7 h8 k7 k8 h6 hz cE
  · rw [decide_eq_true (show 0 < z1.length by omega)]
    obtain ⟨b, off, ha, hlt, hc⟩ := h1a.2 0 (by omega)
    exact specMay_icmp x0 x1 x2 x3 x4 x5 x6 x7 x8 a0 _ c0 a1 _ c1 _ W hC h4 h7 h8 k7 k8 h6 (by omega) m1 b off _ ha hlt hc cE
end Go.Proofs.YtakoagfeiolkjabDoor
