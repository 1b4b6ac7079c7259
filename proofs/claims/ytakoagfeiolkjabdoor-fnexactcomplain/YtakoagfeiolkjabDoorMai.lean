/-
Contracts of functions of this seat.
-/
import Derived.Test.YtakoagfeiolkjabDoorRows
import Derived.WalkKit
import Derived.ProofKit
import Derived.OpenShut
import Derived.Test.YtakoagfeiolkjabDoorMsg
import Derived.Test.YtakoagfeiolkjabDoorMay
import Derived.Test.YtakoagfeiolkjabDoorIpf
namespace Go.Proofs.YtakoagfeiolkjabDoor
open Go.ChangeShapes Go.WideShapes Go.ChangeAt Go.RowKit
set_option linter.unusedVariables false
set_option maxRecDepth 100000
theorem aboutN_is (y : Int) : (aboutN y == 1) = (y == 8 || y == 0) := by
  unfold aboutN
  by_cases h8 : y = 8
  · subst h8; rfl
  by_cases h0 : y = 0
  · subst h0; rfl
  rw [if_neg h8, if_neg h0, beq_eq_false_iff_ne.2 h8, beq_eq_false_iff_ne.2 h0]
  by_cases h3 : y = 3
  · subst h3; rfl
  by_cases h11 : y = 11
  · subst h11; rfl
  rw [if_neg h3, if_neg h11]
  rfl
set_option maxHeartbeats 2000000 in
theorem isEcho_none (a1 : Option Addr) (c1 : Nat) (w : World) : Calls Tryd.prog 95 #[.slice a1 0 c1] w fun e w' => e = .returned (.bool false) ∧ Below w.heap.size w w' := by
  go_enter Tryd.func95, Tryd.ntmps95
  go_wp2
  go_ret
  exact ⟨rfl, Below.refl _ _⟩
set_option maxHeartbeats 2000000 in
theorem isEcho_some (n1 c1 : Nat) (w : World) (h1 : 0 < n1) (hm : n1 ≤ 1048576) (b off : Nat) (y : Int) (hlt : b < w.heap.size) (hc : w.cell? ⟨b, off, none⟩ = some (.int .u8 y)) (hy0 : 0 ≤ y) (hy1 : y ≤ 255) :
    Calls Tryd.prog 95 #[.slice (some ⟨b, off, none⟩) n1 c1] w fun e w' => e = .returned (.bool (y == 8 || y == 0)) ∧ Below w.heap.size w w' := by
  have CM := hide (fun W => messageOf_walk y 0 0 none 0 0 W)
  have CA := hide (fun W => aboutWhat_walk y 0 0 (.slice none 0 0) W)
  have E := hide (aboutN_is y)
  have hw : IntKind.i64.wrap y = y := by rw [IntKind.wrap_i64]; omega
  go_enter Tryd.func95, Tryd.ntmps95
  go_wp2_with fail
  refine (CM.out _).mono ?_
  rintro e w1 ⟨rfl, hb1⟩
  have HB1 := hide hb1
  clear hb1 hc
  go_wp2_with fail
  refine (CA.out _).mono ?_
  rintro e w2 ⟨rfl, hw2⟩
  rw [hw2]
  clear hw2
  go_wp2_with fail
  go_ret
  exact ⟨ret_bool E.out, HB1.out⟩
theorem isEcho_walk (a1 : Option Addr) (n1 c1 : Nat) (z1 : List Int) (w : World) (h1n : z1.length = n1) (h1a : Arr w a1 z1) (m1 : n1 ≤ 1048576) : Calls Tryd.prog 95 #[.slice a1 n1 c1] w fun e w' => e = .returned (.bool (decide (0 < z1.length) && (z1.getD 0 0 == 8 || z1.getD 0 0 == 0))) ∧ Below w.heap.size w w' := by
  by_cases h1 : n1 = 0
  · subst h1
    rw [decide_eq_false (by omega : ¬ 0 < z1.length)]
    exact isEcho_none a1 c1 w
  · obtain ⟨b, off, e, hlt, hc⟩ := h1a.2 0 (by omega)
    rw [decide_eq_true (by omega : 0 < z1.length)]
    have hy := h1a.1 (z1.getD 0 0) (by rw [List.getD_eq_getElem?_getD, List.getElem?_eq_getElem (by omega : 0 < z1.length)]; exact List.getElem_mem _)
    subst e
    exact isEcho_some n1 c1 w (by omega) m1 b off (z1.getD 0 0) hlt hc hy.1 hy.2
set_option maxHeartbeats 2000000 in
theorem mayAnswer_other (x0 x1 : Int) (x2 x3 : Bool) (x4 x5 x6 x7 x8 : Int) (a0 : Option Addr) (n0 c0 : Nat) (a1 : Option Addr) (n1 c1 : Nat) (w : World) (h6 : ¬ x6 = 1) :
    Calls Tryd.prog 91 #[.agg #[.int .i64 x0, .int .i64 x1, .bool x2, .bool x3, .int .i64 x4, .int .i64 x5, .int .i64 x6, .int .i64 x7, .int .i64 x8, .slice a0 n0 c0, .slice a1 n1 c1]] w fun e w' => e = .returned (.bool true) ∧ Below w.heap.size w w' := by
  have HB := hide (BoxPacket.start w x0 x1 x2 x3 x4 x5 x6 x7 x8 (.slice a0 n0 c0) (.slice a1 n1 c1) 47)
  obtain ⟨_, _, k0, k1, k2, k3, k4, k5, k6, k7, k8, k9, k10⟩ := HB.out
  have h6b : (x6 != 1) = true := by simpa using h6
  go_enter Tryd.func91, Tryd.ntmps91
  go_wp2
  go_ret
  exact ⟨rfl, HB.out.1⟩
set_option maxHeartbeats 2000000 in
theorem mayAnswer_icmp (x0 x1 : Int) (x2 x3 : Bool) (x4 x5 x6 x7 x8 : Int) (a0 : Option Addr) (n0 c0 : Nat) (a1 : Option Addr) (n1 c1 : Nat) (w : World) (h6 : x6 = 1) (R : Bool) (cE : ∀ W, Below w.heap.size w W → Calls Tryd.prog 95 #[.slice a1 n1 c1] W fun e w' => e = .returned (.bool R) ∧ Below W.heap.size W w') :
    Calls Tryd.prog 91 #[.agg #[.int .i64 x0, .int .i64 x1, .bool x2, .bool x3, .int .i64 x4, .int .i64 x5, .int .i64 x6, .int .i64 x7, .int .i64 x8, .slice a0 n0 c0, .slice a1 n1 c1]] w fun e w' => e = .returned (.bool R) ∧ Below w.heap.size w w' := by
  subst h6
  have HB := hide (BoxPacket.start w x0 x1 x2 x3 x4 x5 1 x7 x8 (.slice a0 n0 c0) (.slice a1 n1 c1) 47)
  obtain ⟨_, _, k0, k1, k2, k3, k4, k5, k6, k7, k8, k9, k10⟩ := HB.out
  have CE := hide cE
  clear cE
  go_enter Tryd.func91, Tryd.ntmps91
  go_wp2_with fail
  refine (CE.out _ HB.out.1).mono ?_
  rintro e w1 ⟨rfl, hb1⟩
  have HB1 := hide (HB.out.next hb1)
  clear k0 k1 k2 k3 k4 k5 k6 k7 k8 k9 k10 hb1
  go_wp2_with fail
  go_ret
  exact ⟨rfl, HB1.out.1⟩
theorem mayAnswer_walk (x0 x1 : Int) (x2 x3 : Bool) (x4 x5 x6 x7 x8 : Int) (a0 : Option Addr) (n0 c0 : Nat) (a1 : Option Addr) (n1 c1 : Nat) (z1 : List Int) (w : World) (h1n : z1.length = n1) (h1a : Arr w a1 z1) (m1 : n1 ≤ 1048576) :
    Calls Tryd.prog 91 #[.agg #[.int .i64 x0, .int .i64 x1, .bool x2, .bool x3, .int .i64 x4, .int .i64 x5, .int .i64 x6, .int .i64 x7, .int .i64 x8, .slice a0 n0 c0, .slice a1 n1 c1]] w fun e w' => e = .returned (.bool (!decide (x6 = 1) || (decide (0 < z1.length) && (z1.getD 0 0 == 8 || z1.getD 0 0 == 0)))) ∧ Below w.heap.size w w' := by
  by_cases h6 : x6 = 1
  · rw [decide_eq_true h6]
    exact mayAnswer_icmp x0 x1 x2 x3 x4 x5 x6 x7 x8 a0 n0 c0 a1 n1 c1 w h6 _ (fun W hb => isEcho_walk a1 n1 c1 z1 W h1n (h1a.below hb (Nat.le_refl _)) m1)
  · rw [decide_eq_false h6]
    exact mayAnswer_other x0 x1 x2 x3 x4 x5 x6 x7 x8 a0 n0 c0 a1 n1 c1 w h6
set_option maxHeartbeats 4000000 in
theorem mayI_enc (x0 x1 : Int) (x2 x3 : Bool) (x4 x5 x6 x7 x8 : Int) (a0 : Option Addr) (n0 c0 : Nat) (a1 : Option Addr) (n1 c1 : Nat) (w : World) (m0 : n0 ≤ 1048576) (m1 : n1 ≤ 1048576) (hE : encB x0 x1 x4 x5 x6 x7 x8 n0 n1 = false) :
    Calls Tryd.prog 72 #[.agg #[.int .i64 x0, .int .i64 x1, .bool x2, .bool x3, .int .i64 x4, .int .i64 x5, .int .i64 x6, .int .i64 x7, .int .i64 x8, .slice a0 n0 c0, .slice a1 n1 c1]] w fun e w' => e = .returned (.bool false) ∧ Below w.heap.size w w' := by
  have HB := hide (BoxPacket.start w x0 x1 x2 x3 x4 x5 x6 x7 x8 (.slice a0 n0 c0) (.slice a1 n1 c1) 47)
  obtain ⟨_, _, k0, k1, k2, k3, k4, k5, k6, k7, k8, k9, k10⟩ := HB.out
  have CE := hide (fun W => by have h' := encodes_walk x0 x1 x2 x3 x4 x5 x6 x7 x8 a0 n0 c0 a1 n1 c1 W m0 m1; rw [hE] at h'; exact h')
  clear hE
  go_enter Tryd.func72, Tryd.ntmps72
  go_wp2_with fail
  refine (CE.out _).mono ?_
  rintro e w1 ⟨rfl, hb1⟩
  have HB1 := hide (HB.out.next hb1)
  clear k0 k1 k2 k3 k4 k5 k6 k7 k8 k9 k10 hb1 HB CE
  obtain ⟨_, _, k0, k1, k2, k3, k4, k5, k6, k7, k8, k9, k10⟩ := HB1.out
  go_wp2_with fail
  go_ret
  exact ⟨rfl, HB1.out.1⟩
set_option maxHeartbeats 4000000 in
theorem mayI_off (x0 x1 : Int) (x2 x3 : Bool) (x4 x5 x6 x7 x8 : Int) (a0 : Option Addr) (n0 c0 : Nat) (a1 : Option Addr) (n1 c1 : Nat) (w : World) (m0 : n0 ≤ 1048576) (m1 : n1 ≤ 1048576) (hE : encB x0 x1 x4 x5 x6 x7 x8 n0 n1 = true) (h4 : ¬ x4 = 0) :
    Calls Tryd.prog 72 #[.agg #[.int .i64 x0, .int .i64 x1, .bool x2, .bool x3, .int .i64 x4, .int .i64 x5, .int .i64 x6, .int .i64 x7, .int .i64 x8, .slice a0 n0 c0, .slice a1 n1 c1]] w fun e w' => e = .returned (.bool false) ∧ Below w.heap.size w w' := by
  have HB := hide (BoxPacket.start w x0 x1 x2 x3 x4 x5 x6 x7 x8 (.slice a0 n0 c0) (.slice a1 n1 c1) 47)
  obtain ⟨_, _, k0, k1, k2, k3, k4, k5, k6, k7, k8, k9, k10⟩ := HB.out
  have CE := hide (fun W => by have h' := encodes_walk x0 x1 x2 x3 x4 x5 x6 x7 x8 a0 n0 c0 a1 n1 c1 W m0 m1; rw [hE] at h'; exact h')
  clear hE
  have h4b : (x4 == 0) = false := beq_eq_false_iff_ne.2 h4
  clear h4
  go_enter Tryd.func72, Tryd.ntmps72
  go_wp2_with fail
  refine (CE.out _).mono ?_
  rintro e w1 ⟨rfl, hb1⟩
  have HB1 := hide (HB.out.next hb1)
  clear k0 k1 k2 k3 k4 k5 k6 k7 k8 k9 k10 hb1 HB CE
  obtain ⟨_, _, k0, k1, k2, k3, k4, k5, k6, k7, k8, k9, k10⟩ := HB1.out
  go_wp2_with fail
  go_ret
  exact ⟨rfl, HB1.out.1⟩
set_option maxHeartbeats 4000000 in
theorem mayI_src (x0 x1 : Int) (x2 x3 : Bool) (x4 x5 x6 x7 x8 : Int) (a0 : Option Addr) (n0 c0 : Nat) (a1 : Option Addr) (n1 c1 : Nat) (w : World) (m0 : n0 ≤ 1048576) (m1 : n1 ≤ 1048576) (hE : encB x0 x1 x4 x5 x6 x7 x8 n0 n1 = true) (h4 : (x4 == 0) = true) (h7 : adrB x7 = true) (hk7 : (kind x7 == 6) = false) :
    Calls Tryd.prog 72 #[.agg #[.int .i64 x0, .int .i64 x1, .bool x2, .bool x3, .int .i64 x4, .int .i64 x5, .int .i64 x6, .int .i64 x7, .int .i64 x8, .slice a0 n0 c0, .slice a1 n1 c1]] w fun e w' => e = .returned (.bool false) ∧ Below w.heap.size w w' := by
  have HB := hide (BoxPacket.start w x0 x1 x2 x3 x4 x5 x6 x7 x8 (.slice a0 n0 c0) (.slice a1 n1 c1) 47)
  obtain ⟨_, _, k0, k1, k2, k3, k4, k5, k6, k7, k8, k9, k10⟩ := HB.out
  have CE := hide (fun W => by have h' := encodes_walk x0 x1 x2 x3 x4 x5 x6 x7 x8 a0 n0 c0 a1 n1 c1 W m0 m1; rw [hE] at h'; exact h')
  clear hE
  have CK7 := hide (fun W => kind_yes x7 W h7)
  clear h7
  go_enter Tryd.func72, Tryd.ntmps72
  go_wp2_with fail
  refine (CE.out _).mono ?_
  rintro e w1 ⟨rfl, hb1⟩
  have HB1 := hide (HB.out.next hb1)
  clear k0 k1 k2 k3 k4 k5 k6 k7 k8 k9 k10 hb1 HB CE
  obtain ⟨_, _, k0, k1, k2, k3, k4, k5, k6, k7, k8, k9, k10⟩ := HB1.out
  go_wp2_with fail
  refine (CK7.out _).mono ?_
  rintro e w2 ⟨rfl, hb1⟩
  have HB2 := hide (HB1.out.next hb1)
  clear k0 k1 k2 k3 k4 k5 k6 k7 k8 k9 k10 hb1 HB1 CK7
  obtain ⟨_, _, k0, k1, k2, k3, k4, k5, k6, k7, k8, k9, k10⟩ := HB2.out
  go_wp2_with fail
  go_ret
  exact ⟨rfl, HB2.out.1⟩
set_option maxHeartbeats 4000000 in
theorem mayI_dst (x0 x1 : Int) (x2 x3 : Bool) (x4 x5 x6 x7 x8 : Int) (a0 : Option Addr) (n0 c0 : Nat) (a1 : Option Addr) (n1 c1 : Nat) (w : World) (m0 : n0 ≤ 1048576) (m1 : n1 ≤ 1048576) (hE : encB x0 x1 x4 x5 x6 x7 x8 n0 n1 = true) (h4 : (x4 == 0) = true) (h7 : adrB x7 = true) (hk7 : (kind x7 == 6) = true) (h8 : adrB x8 = true) (hk8 : (kind x8 == 6) = false) :
    Calls Tryd.prog 72 #[.agg #[.int .i64 x0, .int .i64 x1, .bool x2, .bool x3, .int .i64 x4, .int .i64 x5, .int .i64 x6, .int .i64 x7, .int .i64 x8, .slice a0 n0 c0, .slice a1 n1 c1]] w fun e w' => e = .returned (.bool false) ∧ Below w.heap.size w w' := by
  have HB := hide (BoxPacket.start w x0 x1 x2 x3 x4 x5 x6 x7 x8 (.slice a0 n0 c0) (.slice a1 n1 c1) 47)
  obtain ⟨_, _, k0, k1, k2, k3, k4, k5, k6, k7, k8, k9, k10⟩ := HB.out
  have CE := hide (fun W => by have h' := encodes_walk x0 x1 x2 x3 x4 x5 x6 x7 x8 a0 n0 c0 a1 n1 c1 W m0 m1; rw [hE] at h'; exact h')
  clear hE
  have CK7 := hide (fun W => kind_yes x7 W h7)
  clear h7
  have CK8 := hide (fun W => kind_yes x8 W h8)
  clear h8
  go_enter Tryd.func72, Tryd.ntmps72
  go_wp2_with fail
  refine (CE.out _).mono ?_
  rintro e w1 ⟨rfl, hb1⟩
  have HB1 := hide (HB.out.next hb1)
  clear k0 k1 k2 k3 k4 k5 k6 k7 k8 k9 k10 hb1 HB CE
  obtain ⟨_, _, k0, k1, k2, k3, k4, k5, k6, k7, k8, k9, k10⟩ := HB1.out
  go_wp2_with fail
  refine (CK7.out _).mono ?_
  rintro e w2 ⟨rfl, hb1⟩
  have HB2 := hide (HB1.out.next hb1)
  clear k0 k1 k2 k3 k4 k5 k6 k7 k8 k9 k10 hb1 HB1 CK7
  obtain ⟨_, _, k0, k1, k2, k3, k4, k5, k6, k7, k8, k9, k10⟩ := HB2.out
  go_wp2_with fail
  refine (CK8.out _).mono ?_
  rintro e w3 ⟨rfl, hb1⟩
  have HB3 := hide (HB2.out.next hb1)
  clear k0 k1 k2 k3 k4 k5 k6 k7 k8 k9 k10 hb1 HB2 CK8
  obtain ⟨_, _, k0, k1, k2, k3, k4, k5, k6, k7, k8, k9, k10⟩ := HB3.out
  go_wp2_with fail
  go_ret
  exact ⟨rfl, HB3.out.1⟩
set_option maxHeartbeats 4000000 in
theorem mayI_ans (x0 x1 : Int) (x2 x3 : Bool) (x4 x5 x6 x7 x8 : Int) (a0 : Option Addr) (n0 c0 : Nat) (a1 : Option Addr) (n1 c1 : Nat) (w : World) (m0 : n0 ≤ 1048576) (m1 : n1 ≤ 1048576) (hE : encB x0 x1 x4 x5 x6 x7 x8 n0 n1 = true) (h4 : (x4 == 0) = true) (h7 : adrB x7 = true) (hk7 : (kind x7 == 6) = true) (h8 : adrB x8 = true) (hk8 : (kind x8 == 6) = true) (R : Bool) (cM : ∀ W, Below w.heap.size w W → Calls Tryd.prog 91 #[.agg #[.int .i64 x0, .int .i64 x1, .bool x2, .bool x3, .int .i64 x4, .int .i64 x5, .int .i64 x6, .int .i64 x7, .int .i64 x8, .slice a0 n0 c0, .slice a1 n1 c1]] W fun e w' => e = .returned (.bool R) ∧ Below W.heap.size W w') :
    Calls Tryd.prog 72 #[.agg #[.int .i64 x0, .int .i64 x1, .bool x2, .bool x3, .int .i64 x4, .int .i64 x5, .int .i64 x6, .int .i64 x7, .int .i64 x8, .slice a0 n0 c0, .slice a1 n1 c1]] w fun e w' => e = .returned (.bool R) ∧ Below w.heap.size w w' := by
  have HB := hide (BoxPacket.start w x0 x1 x2 x3 x4 x5 x6 x7 x8 (.slice a0 n0 c0) (.slice a1 n1 c1) 47)
  obtain ⟨_, _, k0, k1, k2, k3, k4, k5, k6, k7, k8, k9, k10⟩ := HB.out
  have CE := hide (fun W => by have h' := encodes_walk x0 x1 x2 x3 x4 x5 x6 x7 x8 a0 n0 c0 a1 n1 c1 W m0 m1; rw [hE] at h'; exact h')
  clear hE
  have CK7 := hide (fun W => kind_yes x7 W h7)
  clear h7
  have CK8 := hide (fun W => kind_yes x8 W h8)
  clear h8
  have CM := hide cM
  clear cM
  go_enter Tryd.func72, Tryd.ntmps72
  go_wp2_with fail
  refine (CE.out _).mono ?_
  rintro e w1 ⟨rfl, hb1⟩
  have HB1 := hide (HB.out.next hb1)
  clear k0 k1 k2 k3 k4 k5 k6 k7 k8 k9 k10 hb1 HB CE
  obtain ⟨_, _, k0, k1, k2, k3, k4, k5, k6, k7, k8, k9, k10⟩ := HB1.out
  go_wp2_with fail
  refine (CK7.out _).mono ?_
  rintro e w2 ⟨rfl, hb1⟩
  have HB2 := hide (HB1.out.next hb1)
  clear k0 k1 k2 k3 k4 k5 k6 k7 k8 k9 k10 hb1 HB1 CK7
  obtain ⟨_, _, k0, k1, k2, k3, k4, k5, k6, k7, k8, k9, k10⟩ := HB2.out
  go_wp2_with fail
  refine (CK8.out _).mono ?_
  rintro e w3 ⟨rfl, hb1⟩
  have HB3 := hide (HB2.out.next hb1)
  clear k0 k1 k2 k3 k4 k5 k6 k7 k8 k9 k10 hb1 HB2 CK8
  obtain ⟨_, _, k0, k1, k2, k3, k4, k5, k6, k7, k8, k9, k10⟩ := HB3.out
  go_wp2_with fail
  refine (CM.out _ HB3.out.1).mono ?_
  rintro e w4 ⟨rfl, hb1⟩
  have HB4 := hide (HB3.out.next hb1)
  clear k0 k1 k2 k3 k4 k5 k6 k7 k8 k9 k10 hb1 HB3 CM
  go_wp2_with fail
  go_ret
  exact ⟨rfl, HB4.out.1⟩
theorem encB_of' (x0 x1 x4 x5 x6 x7 x8 : Int) (n0 n1 : Nat) : encB x0 x1 x4 x5 x6 x7 x8 n0 n1 = decide (ipC x0 x1 x4 x5 x6 x7 x8 n0 n1 = 0) := by
  unfold encB ipC fitB
  cases pkOK x0 x1 x4 x5 x6 x7 x8 n0 with
  | false => rfl
  | true =>
    rw [Bool.true_and, if_pos rfl]
    by_cases h : 65535 < 20 + (n0 : Int) + (n1 : Int) ∨ 65535 < x4 + (n1 : Int)
    · rw [if_pos h]
      rcases h with h | h
      · rw [decide_eq_false (by omega)]; rfl
      · rw [decide_eq_false (show ¬ x4 + (n1 : Int) ≤ 65535 by omega), Bool.and_false]; rfl
    · rw [if_neg h, decide_eq_true (show 20 + (n0 : Int) + (n1 : Int) ≤ 65535 by omega), decide_eq_true (show x4 + (n1 : Int) ≤ 65535 by omega)]; rfl
/-- MayComplain of the program. -/
theorem implMay (x0 x1 : Int) (x2 x3 : Bool) (x4 x5 x6 x7 x8 : Int) (z0 z1 : List Int) (Pre : World → Prop) : BoolPacketP 72 Pre x0 x1 x2 x3 x4 x5 x6 x7 x8 z0 z1 (mayB x0 x1 x4 x5 x6 x7 x8 z0.length z1) := by
  intro a0 n0 c0 a1 n1 c1 W h0n h0a k0 m0 h1n h1a k1 m1 hp
  subst h0n h1n
  by_cases hC : ipC x0 x1 x4 x5 x6 x7 x8 z0.length z1.length = 0
  · have hE : encB x0 x1 x4 x5 x6 x7 x8 z0.length z1.length = true := by rw [encB_of', decide_eq_true hC]
    obtain ⟨_, h7, h8⟩ := ipC_adr hC
    by_cases h4 : x4 = 0
    · have h4b : (x4 == 0) = true := beq_iff_eq.2 h4
      by_cases h7k : kind x7 = 6
      · by_cases h8k : kind x8 = 6
        · rw [show mayB x0 x1 x4 x5 x6 x7 x8 z0.length z1 = (!decide (x6 = 1) || (decide (0 < z1.length) && (z1.getD 0 0 == 8 || z1.getD 0 0 == 0))) by unfold mayB; rw [decide_eq_true hC, decide_eq_true h4, decide_eq_true h7k, decide_eq_true h8k]; rfl]
          exact mayI_ans x0 x1 x2 x3 x4 x5 x6 x7 x8 a0 _ c0 a1 _ c1 W m0 m1 hE h4b h7 (beq_iff_eq.2 h7k) h8 (beq_iff_eq.2 h8k) _ (fun V hb => mayAnswer_walk x0 x1 x2 x3 x4 x5 x6 x7 x8 a0 _ c0 a1 _ c1 z1 V rfl (h1a.below hb (Nat.le_refl _)) m1)
        · rw [show mayB x0 x1 x4 x5 x6 x7 x8 z0.length z1 = false by unfold mayB; rw [decide_eq_false h8k]; simp]
          exact mayI_dst x0 x1 x2 x3 x4 x5 x6 x7 x8 a0 _ c0 a1 _ c1 W m0 m1 hE h4b h7 (beq_iff_eq.2 h7k) h8 (beq_eq_false_iff_ne.2 h8k)
      · rw [show mayB x0 x1 x4 x5 x6 x7 x8 z0.length z1 = false by unfold mayB; rw [decide_eq_false h7k]; simp]
        exact mayI_src x0 x1 x2 x3 x4 x5 x6 x7 x8 a0 _ c0 a1 _ c1 W m0 m1 hE h4b h7 (beq_eq_false_iff_ne.2 h7k)
    · rw [show mayB x0 x1 x4 x5 x6 x7 x8 z0.length z1 = false by unfold mayB; rw [decide_eq_false h4]; simp]
      exact mayI_off x0 x1 x2 x3 x4 x5 x6 x7 x8 a0 _ c0 a1 _ c1 W m0 m1 hE h4
  · rw [show mayB x0 x1 x4 x5 x6 x7 x8 z0.length z1 = false by unfold mayB; rw [decide_eq_false hC]; rfl]
    exact mayI_enc x0 x1 x2 x3 x4 x5 x6 x7 x8 a0 _ c0 a1 _ c1 W m0 m1 (by rw [encB_of', decide_eq_false hC])
end Go.Proofs.YtakoagfeiolkjabDoor
