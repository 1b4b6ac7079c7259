/-
Contracts of functions of this seat.
-/
import Derived.Test.YtakoagfeiolkjabDoorRows
import Derived.WalkKit
import Derived.ProofKit
import Derived.OpenShut
import Derived.Test.YtakoagfeiolkjabDoorIps
namespace Go.Proofs.YtakoagfeiolkjabDoor
open Go.ChangeShapes Go.WideShapes Go.ChangeAt Go.RowKit
set_option linter.unusedVariables false
set_option maxRecDepth 100000
def hdF (n0 : Nat) : Int := bits .or .i64 64 ((20 + (n0 : Int)) / 4)
def hdL (x2 x3 : Bool) (x4 : Int) : Int := if x3 then bits .or .i64 (if x2 then bits .or .i64 (wrap64 (x4.tdiv 8)) 16384 else wrap64 (x4.tdiv 8)) 8192 else (if x2 then bits .or .i64 (wrap64 (x4.tdiv 8)) 16384 else wrap64 (x4.tdiv 8))
set_option maxHeartbeats 4000000 in
theorem headOf_any (x0 x1 : Int) (x2 x3 : Bool) (x4 x5 x6 x7 x8 : Int) (a0 : Option Addr) (n0 c0 : Nat) (a1 : Option Addr) (n1 c1 : Nat) (w : World) (m0 : n0 ≤ 1048576) (m1 : n1 ≤ 1048576) :
    Calls Tryd.prog 61 #[.agg #[.int .i64 x0, .int .i64 x1, .bool x2, .bool x3, .int .i64 x4, .int .i64 x5, .int .i64 x6, .int .i64 x7, .int .i64 x8, .slice a0 n0 c0, .slice a1 n1 c1]] w fun e w' => ∃ (H : Nat), e = .returned (.pointer (some ⟨H, 0, none⟩)) ∧ w.heap.size ≤ H ∧ Below w.heap.size w w' ∧ w'.heap[H]? = some (.cells #[.int .i64 (hdF n0), .int .i64 x0, .int .i64 (20 + (n0 : Int) + (n1 : Int)), .int .i64 x1, .int .i64 (hdL x2 x3 x4), .int .i64 x5, .int .i64 x6, .int .i64 x7, .int .i64 x8, .slice a0 n0 c0] 114) := by
  have HB := hide (BoxPacket.start w x0 x1 x2 x3 x4 x5 x6 x7 x8 (.slice a0 n0 c0) (.slice a1 n1 c1) 47)
  have CL := hide (fun W => headLength_walk x0 x1 x2 x3 x4 x5 x6 x7 x8 a0 n0 c0 a1 n1 c1 W m0)
  obtain ⟨_, _, k0, k1, k2, k3, k4, k5, k6, k7, k8, k9, k10⟩ := HB.out
  cases x2 <;> cases x3
  · go_enter Tryd.func61, Tryd.ntmps61
    go_wp2_with fail
    clear k0 k1 k2 k3 k4 k5 k6 k7 k8 k9 k10
    generalize w.alloc _ = W0 at *
    refine (CL.out _).mono ?_
    rintro e W ⟨rfl, hbl⟩
    replace HB := hide (HB.out.next hbl)
    clear hbl
    obtain ⟨_, _, k0, k1, k2, k3, k4, k5, k6, k7, k8, k9, k10⟩ := HB.out
    go_wp2_with fail
    clear k0 k1 k2 k3 k4 k5 k6 k7 k8 k9 k10
    go_region_held3 (fun w' => BoxPacket w w' x0 x1 false false x4 x5 x6 x7 x8 (.slice a0 n0 c0) (.slice a1 n1 c1)) (first | assumption | exact BoxPacket.next (by assumption) (by assumption) | exact HB.out.drew | exact BoxPacket.next (by assumption) ((Below.refl _ _).alloc (Nat.le_refl _) _))
      (first
        | (go_at_call 60; refine (headAndPayload_walk _ _ _ _ _ _ _ _ _ _ _ _ _ _ _ _ m0 m1).mono ?_; rintro e w' ⟨rfl, hbp⟩))
    all_goals (go_wp2_with fail; go_ret; exact ⟨_, rfl, Nat.le_trans HB.out.1.size hbp.size, BoxPacket.b (by assumption), heap_alloc_new _ _⟩)
  · go_enter Tryd.func61, Tryd.ntmps61
    go_wp2_with fail
    clear k0 k1 k2 k3 k4 k5 k6 k7 k8 k9 k10
    generalize w.alloc _ = W0 at *
    refine (CL.out _).mono ?_
    rintro e W ⟨rfl, hbl⟩
    replace HB := hide (HB.out.next hbl)
    clear hbl
    obtain ⟨_, _, k0, k1, k2, k3, k4, k5, k6, k7, k8, k9, k10⟩ := HB.out
    go_wp2_with fail
    clear k0 k1 k2 k3 k4 k5 k6 k7 k8 k9 k10
    go_region_held3 (fun w' => BoxPacket w w' x0 x1 false true x4 x5 x6 x7 x8 (.slice a0 n0 c0) (.slice a1 n1 c1)) (first | assumption | exact BoxPacket.next (by assumption) (by assumption) | exact HB.out.drew | exact BoxPacket.next (by assumption) ((Below.refl _ _).alloc (Nat.le_refl _) _))
      (first
        | (go_at_call 60; refine (headAndPayload_walk _ _ _ _ _ _ _ _ _ _ _ _ _ _ _ _ m0 m1).mono ?_; rintro e w' ⟨rfl, hbp⟩))
    all_goals (go_wp2_with fail; go_ret; exact ⟨_, rfl, Nat.le_trans HB.out.1.size hbp.size, BoxPacket.b (by assumption), heap_alloc_new _ _⟩)
  · go_enter Tryd.func61, Tryd.ntmps61
    go_wp2_with fail
    clear k0 k1 k2 k3 k4 k5 k6 k7 k8 k9 k10
    generalize w.alloc _ = W0 at *
    refine (CL.out _).mono ?_
    rintro e W ⟨rfl, hbl⟩
    replace HB := hide (HB.out.next hbl)
    clear hbl
    obtain ⟨_, _, k0, k1, k2, k3, k4, k5, k6, k7, k8, k9, k10⟩ := HB.out
    go_wp2_with fail
    clear k0 k1 k2 k3 k4 k5 k6 k7 k8 k9 k10
    go_region_held3 (fun w' => BoxPacket w w' x0 x1 true false x4 x5 x6 x7 x8 (.slice a0 n0 c0) (.slice a1 n1 c1)) (first | assumption | exact BoxPacket.next (by assumption) (by assumption) | exact HB.out.drew | exact BoxPacket.next (by assumption) ((Below.refl _ _).alloc (Nat.le_refl _) _))
      (first
        | (go_at_call 60; refine (headAndPayload_walk _ _ _ _ _ _ _ _ _ _ _ _ _ _ _ _ m0 m1).mono ?_; rintro e w' ⟨rfl, hbp⟩))
    all_goals (go_wp2_with fail; go_ret; exact ⟨_, rfl, Nat.le_trans HB.out.1.size hbp.size, BoxPacket.b (by assumption), heap_alloc_new _ _⟩)
  · go_enter Tryd.func61, Tryd.ntmps61
    go_wp2_with fail
    clear k0 k1 k2 k3 k4 k5 k6 k7 k8 k9 k10
    generalize w.alloc _ = W0 at *
    refine (CL.out _).mono ?_
    rintro e W ⟨rfl, hbl⟩
    replace HB := hide (HB.out.next hbl)
    clear hbl
    obtain ⟨_, _, k0, k1, k2, k3, k4, k5, k6, k7, k8, k9, k10⟩ := HB.out
    go_wp2_with fail
    clear k0 k1 k2 k3 k4 k5 k6 k7 k8 k9 k10
    go_region_held3 (fun w' => BoxPacket w w' x0 x1 true true x4 x5 x6 x7 x8 (.slice a0 n0 c0) (.slice a1 n1 c1)) (first | assumption | exact BoxPacket.next (by assumption) (by assumption) | exact HB.out.drew | exact BoxPacket.next (by assumption) ((Below.refl _ _).alloc (Nat.le_refl _) _))
      (first
        | (go_at_call 60; refine (headAndPayload_walk _ _ _ _ _ _ _ _ _ _ _ _ _ _ _ _ m0 m1).mono ?_; rintro e w' ⟨rfl, hbp⟩))
    all_goals (go_wp2_with fail; go_ret; exact ⟨_, rfl, Nat.le_trans HB.out.1.size hbp.size, BoxPacket.b (by assumption), heap_alloc_new _ _⟩)
end Go.Proofs.YtakoagfeiolkjabDoor
