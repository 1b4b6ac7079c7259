/-
Contracts of functions of this seat.
-/
import Derived.Test.YtakoagfeiolkjabDoorRows
import Derived.WalkKit
import Derived.ProofKit
import Derived.OpenShut
import Derived.Test.YtakoagfeiolkjabDoorIek
namespace Go.Proofs.YtakoagfeiolkjabDoor
open Go.ChangeShapes Go.WideShapes Go.ChangeAt Go.RowKit
set_option linter.unusedVariables false
set_option maxRecDepth 100000
set_option maxHeartbeats 4000000 in
theorem implEncIP_form (x0 x1 : Int) (x2 x3 : Bool) (x4 x5 x6 x7 x8 : Int) (a0 : Option Addr) (n0 c0 : Nat) (a1 : Option Addr) (n1 c1 : Nat) (w : World) (m0 : n0 ≤ 1048576) (m1 : n1 ≤ 1048576) (h : pkOK x0 x1 x4 x5 x6 x7 x8 n0 = false) (he : ErrT w) :
    Calls Tryd.prog 26 #[.agg #[.int .i64 x0, .int .i64 x1, .bool x2, .bool x3, .int .i64 x4, .int .i64 x5, .int .i64 x6, .int .i64 x7, .int .i64 x8, .slice a0 n0 c0, .slice a1 n1 c1]] w fun e w' => e = .returned (.tuple #[.slice none 0 0, .int .i64 1]) ∧ Below w.heap.size w w' := by
  have HF := hide (encPW_facts w x0 x1 x2 x3 x4 x5 x6 x7 x8 (.slice a0 n0 c0) (.slice a1 n1 c1))
  have HE := hide he
  have CV := hide (fun W => by have h' := validPacket_walk x0 x1 x2 x3 x4 x5 x6 x7 x8 a0 n0 c0 a1 n1 c1 W m0; rw [h] at h'; exact h')
  have CP := hide (fun W => headAndPayload_walk x0 x1 x2 x3 x4 x5 x6 x7 x8 a0 n0 c0 a1 n1 c1 W m0 m1)
  have CH := hide (fun W => headOf_any x0 x1 x2 x3 x4 x5 x6 x7 x8 a0 n0 c0 a1 n1 c1 W m0 m1)
  have CW := hide (fun W => fitsInBytes_any x0 x1 x2 x3 x4 x5 x6 x7 x8 a0 n0 c0 a1 n1 c1 W m0 m1)
  clear h he
  obtain ⟨⟨_, _, k0, k1, k2, k3, k4, k5, k6, k7, k8, k9, k10⟩, hc0⟩ := HF.out
  clear hc0
  go_enter Tryd.func26, Tryd.ntmps26
  go_wp2_with fail
  generalize hW : encPW w x0 x1 x2 x3 x4 x5 x6 x7 x8 (.slice a0 n0 c0) (.slice a1 n1 c1) = W at *
  unfold encPW at hW
  rw [hW]
  clear hW
  refine (CV.out _).mono ?_
  rintro e w1 ⟨rfl, hb1⟩
  have HB1 := hide (HF.out.1.next hb1)
  have HC1 := hide (HF.out.2.below hb1 HF.out.2.lt)
  clear k0 k1 k2 k3 k4 k5 k6 k7 k8 k9 k10 HF hb1 CV
  go_wp2_with fail
  have hlt := HC1.out.lt
  refine (demand_no (w.heap.size + 1) 0 (.slice none 0 0) _ _ HC1.out).mono ?_
  rintro e w2 ⟨rfl, hc2, hg2⟩
  have HC2 := hide hc2
  have HB2 := hide (HB1.out.keep (grown_under hg2 (Nat.le_refl _) (by omega)) (by omega))
  clear hc2 hg2 HB1 HC1
  obtain ⟨_, _, k0, k1, k2, k3, k4, k5, k6, k7, k8, k9, k10⟩ := HB2.out
  go_wp2_with fail
  refine (CW.out _).mono ?_
  rintro e w3 ⟨⟨wb, rfl⟩, hb3⟩
  have HB3 := hide (HB2.out.next hb3)
  have HC3 := hide (HC2.out.below hb3 HC2.out.lt)
  clear k0 k1 k2 k3 k4 k5 k6 k7 k8 k9 k10 HB2 HC2 hb3
  obtain ⟨_, _, k0, k1, k2, k3, k4, k5, k6, k7, k8, k9, k10⟩ := HB3.out
  go_wp2_with fail
  refine (demand_err (w.heap.size + 1) 0 (.slice none 0 0) 1 _ _ _ HC3.out).mono ?_
  rintro e w4 ⟨rfl, hw4⟩
  rw [hw4]
  clear k0 k1 k2 k3 k4 k5 k6 k7 k8 k9 k10 hw4
  obtain ⟨_, _, k0, k1, k2, k3, k4, k5, k6, k7, k8, k9, k10⟩ := HB3.out
  go_wp2_with fail
  refine (CP.out _).mono ?_
  rintro e w4 ⟨rfl, hb4⟩
  have HB4 := hide (HB3.out.next hb4)
  have HC4 := hide (HC3.out.below hb4 HC3.out.lt)
  clear k0 k1 k2 k3 k4 k5 k6 k7 k8 k9 k10 HB3 HC3 hb4 CP
  obtain ⟨_, _, k0, k1, k2, k3, k4, k5, k6, k7, k8, k9, k10⟩ := HB4.out
  go_wp2_with fail
  refine (makeRoom_err (w.heap.size + 1) 0 _ 1 _ _ HC4.out).mono ?_
  rintro e w5 ⟨rfl, hw5⟩
  rw [hw5]
  clear hw5
  go_wp2_with fail
  refine (CH.out _).mono ?_
  rintro e w5 ⟨H, rfl, hH, hb5, hh5⟩
  have HB5 := hide (HB4.out.next hb5)
  have HC5 := hide (HC4.out.below hb5 HC4.out.lt)
  have CU := hide (putHead_err (w.heap.size + 1) H n0 c0 a0 1 _ _ _ _ _ _ _ _ _ w5 HC5.out hh5 m0)
  clear k0 k1 k2 k3 k4 k5 k6 k7 k8 k9 k10 HB4 HC4 hb5 hh5 CH
  go_wp2_with fail
  refine CU.out.mono ?_
  rintro e w6 ⟨rfl, hb6⟩
  have HB6 := hide (HB5.out.next hb6)
  have HC6 := hide (HC5.out.below hb6 HC5.out.lt)
  clear CU HB5 HC5 hb6
  obtain ⟨_, _, k0, k1, k2, k3, k4, k5, k6, k7, k8, k9, k10⟩ := HB6.out
  go_wp2_with fail
  refine (putBytes_err (w.heap.size + 1) 0 0 0 n1 c1 none a1 1 _ HC6.out (by omega) (by omega) (by omega)).mono ?_
  rintro e w7 ⟨rfl, mb, rfl⟩
  have HB := hide (below_drewN HB6.out.1 mb)
  obtain ⟨c0', c1', c2', cf⟩ := (show Cur (w6.drewN mb) _ _ _ _ from HC6.out).cells
  clear k0 k1 k2 k3 k4 k5 k6 k7 k8 k9 k10 HB6 HC6
  generalize w6.drewN mb = V at *
  have CA := hide (ansB_err none 0 0 1 (by decide) V.drew (HE.out.below HB.out.drew (Nat.le_refl _)))
  have HK : Hid (V.drew.cell? ⟨w.heap.size + 1, 0, none⟩ = some (.slice none 0 0) ∧ V.drew.cell? ⟨w.heap.size + 1, 2, none⟩ = some (wErr 1)) := hide ⟨c0', c2'⟩
  have hlt8 : w.heap.size + 1 < V.heap.size := lt_cell c0'
  go_wp2_with fail
  go_region_held3 (fun w' => w'.cell? ⟨w.heap.size + 1, 0, none⟩ = some (.slice none 0 0) ∧ w'.cell? ⟨w.heap.size + 1, 2, none⟩ = some (wErr 1)) (first | with_reducible assumption | with_reducible exact HK.out)
    ((go_at_call 45; refine CA.out.mono ?_; rintro e w88 ⟨rfl, hb88⟩; have hk9 : w88.cell? ⟨w.heap.size + 1, 0, none⟩ = some (.slice none 0 0) ∧ w88.cell? ⟨w.heap.size + 1, 2, none⟩ = some (wErr 1) := ⟨(hb88.cell (p := ⟨w.heap.size + 1, 0, none⟩) hlt8).trans HK.out.1, (hb88.cell (p := ⟨w.heap.size + 1, 2, none⟩) hlt8).trans HK.out.2⟩))
  all_goals
    go_wp2_with fail
    go_ret2
    exact ⟨rfl, HB.out.drew.trans (hb88.mono HB.out.size)⟩
set_option maxHeartbeats 4000000 in
theorem implEncIP_size (x0 x1 : Int) (x2 x3 : Bool) (x4 x5 x6 x7 x8 : Int) (a0 : Option Addr) (n0 c0 : Nat) (a1 : Option Addr) (n1 c1 : Nat) (w : World) (m0 : n0 ≤ 1048576) (m1 : n1 ≤ 1048576) (h : pkOK x0 x1 x4 x5 x6 x7 x8 n0 = true) (hs : fitB x4 n0 n1 = false) (he : ErrT w) :
    Calls Tryd.prog 26 #[.agg #[.int .i64 x0, .int .i64 x1, .bool x2, .bool x3, .int .i64 x4, .int .i64 x5, .int .i64 x6, .int .i64 x7, .int .i64 x8, .slice a0 n0 c0, .slice a1 n1 c1]] w fun e w' => e = .returned (.tuple #[.slice none 0 0, .int .i64 7]) ∧ Below w.heap.size w w' := by
  have HF := hide (encPW_facts w x0 x1 x2 x3 x4 x5 x6 x7 x8 (.slice a0 n0 c0) (.slice a1 n1 c1))
  have HE := hide he
  have CV := hide (fun W => by have h' := validPacket_walk x0 x1 x2 x3 x4 x5 x6 x7 x8 a0 n0 c0 a1 n1 c1 W m0; rw [h] at h'; exact h')
  have CP := hide (fun W => headAndPayload_walk x0 x1 x2 x3 x4 x5 x6 x7 x8 a0 n0 c0 a1 n1 c1 W m0 m1)
  have CH := hide (fun W => headOf_any x0 x1 x2 x3 x4 x5 x6 x7 x8 a0 n0 c0 a1 n1 c1 W m0 m1)
  obtain ⟨_, _, b4, _, _, _, _, l0, _, _⟩ := pkOK_parts h
  have CW := hide (fun W => by have h' := fitsInBytes_walk x0 x1 x2 x3 x4 x5 x6 x7 x8 a0 n0 c0 a1 n1 c1 W m0 m1 b4.1 (by omega); rw [hs] at h'; exact h')
  clear hs b4 l0
  clear h he
  obtain ⟨⟨_, _, k0, k1, k2, k3, k4, k5, k6, k7, k8, k9, k10⟩, hc0⟩ := HF.out
  clear hc0
  go_enter Tryd.func26, Tryd.ntmps26
  go_wp2_with fail
  generalize hW : encPW w x0 x1 x2 x3 x4 x5 x6 x7 x8 (.slice a0 n0 c0) (.slice a1 n1 c1) = W at *
  unfold encPW at hW
  rw [hW]
  clear hW
  refine (CV.out _).mono ?_
  rintro e w1 ⟨rfl, hb1⟩
  have HB1 := hide (HF.out.1.next hb1)
  have HC1 := hide (HF.out.2.below hb1 HF.out.2.lt)
  clear k0 k1 k2 k3 k4 k5 k6 k7 k8 k9 k10 HF hb1 CV
  go_wp2_with fail
  refine (demand_yes (w.heap.size + 1) 0 (.slice none 0 0) _ _ HC1.out).mono ?_
  rintro e w2 ⟨rfl, hw2⟩
  rw [hw2]
  clear hw2
  obtain ⟨_, _, k0, k1, k2, k3, k4, k5, k6, k7, k8, k9, k10⟩ := HB1.out
  go_wp2_with fail
  refine (CW.out _).mono ?_
  rintro e w2 ⟨rfl, hb2⟩
  have HB2 := hide (HB1.out.next hb2)
  have HC2 := hide (HC1.out.below hb2 HC1.out.lt)
  clear k0 k1 k2 k3 k4 k5 k6 k7 k8 k9 k10 HB1 HC1 hb2
  obtain ⟨_, _, k0, k1, k2, k3, k4, k5, k6, k7, k8, k9, k10⟩ := HB2.out
  go_wp2_with fail
  have hlt := HC2.out.lt
  refine (demand_no (w.heap.size + 1) 0 (.slice none 0 0) _ _ HC2.out).mono ?_
  rintro e w3 ⟨rfl, hc3, hg3⟩
  have HC3 := hide hc3
  have HB3 := hide (HB2.out.keep (grown_under hg3 (Nat.le_refl _) (by omega)) (by omega))
  clear k0 k1 k2 k3 k4 k5 k6 k7 k8 k9 k10 hc3 hg3 HB2 HC2
  obtain ⟨_, _, k0, k1, k2, k3, k4, k5, k6, k7, k8, k9, k10⟩ := HB3.out
  go_wp2_with fail
  refine (CP.out _).mono ?_
  rintro e w4 ⟨rfl, hb4⟩
  have HB4 := hide (HB3.out.next hb4)
  have HC4 := hide (HC3.out.below hb4 HC3.out.lt)
  clear k0 k1 k2 k3 k4 k5 k6 k7 k8 k9 k10 HB3 HC3 hb4 CP
  obtain ⟨_, _, k0, k1, k2, k3, k4, k5, k6, k7, k8, k9, k10⟩ := HB4.out
  go_wp2_with fail
  refine (makeRoom_err (w.heap.size + 1) 0 _ 7 _ _ HC4.out).mono ?_
  rintro e w5 ⟨rfl, hw5⟩
  rw [hw5]
  clear hw5
  go_wp2_with fail
  refine (CH.out _).mono ?_
  rintro e w5 ⟨H, rfl, hH, hb5, hh5⟩
  have HB5 := hide (HB4.out.next hb5)
  have HC5 := hide (HC4.out.below hb5 HC4.out.lt)
  have CU := hide (putHead_err (w.heap.size + 1) H n0 c0 a0 7 _ _ _ _ _ _ _ _ _ w5 HC5.out hh5 m0)
  clear k0 k1 k2 k3 k4 k5 k6 k7 k8 k9 k10 HB4 HC4 hb5 hh5 CH
  go_wp2_with fail
  refine CU.out.mono ?_
  rintro e w6 ⟨rfl, hb6⟩
  have HB6 := hide (HB5.out.next hb6)
  have HC6 := hide (HC5.out.below hb6 HC5.out.lt)
  clear CU HB5 HC5 hb6
  obtain ⟨_, _, k0, k1, k2, k3, k4, k5, k6, k7, k8, k9, k10⟩ := HB6.out
  go_wp2_with fail
  refine (putBytes_err (w.heap.size + 1) 0 0 0 n1 c1 none a1 7 _ HC6.out (by omega) (by omega) (by omega)).mono ?_
  rintro e w7 ⟨rfl, mb, rfl⟩
  have HB := hide (below_drewN HB6.out.1 mb)
  obtain ⟨c0', c1', c2', cf⟩ := (show Cur (w6.drewN mb) _ _ _ _ from HC6.out).cells
  clear k0 k1 k2 k3 k4 k5 k6 k7 k8 k9 k10 HB6 HC6
  generalize w6.drewN mb = V at *
  have CA := hide (ansB_err none 0 0 7 (by decide) V.drew (HE.out.below HB.out.drew (Nat.le_refl _)))
  have HK : Hid (V.drew.cell? ⟨w.heap.size + 1, 0, none⟩ = some (.slice none 0 0) ∧ V.drew.cell? ⟨w.heap.size + 1, 2, none⟩ = some (wErr 7)) := hide ⟨c0', c2'⟩
  have hlt8 : w.heap.size + 1 < V.heap.size := lt_cell c0'
  go_wp2_with fail
  go_region_held3 (fun w' => w'.cell? ⟨w.heap.size + 1, 0, none⟩ = some (.slice none 0 0) ∧ w'.cell? ⟨w.heap.size + 1, 2, none⟩ = some (wErr 7)) (first | with_reducible assumption | with_reducible exact HK.out)
    ((go_at_call 45; refine CA.out.mono ?_; rintro e w88 ⟨rfl, hb88⟩; have hk9 : w88.cell? ⟨w.heap.size + 1, 0, none⟩ = some (.slice none 0 0) ∧ w88.cell? ⟨w.heap.size + 1, 2, none⟩ = some (wErr 7) := ⟨(hb88.cell (p := ⟨w.heap.size + 1, 0, none⟩) hlt8).trans HK.out.1, (hb88.cell (p := ⟨w.heap.size + 1, 2, none⟩) hlt8).trans HK.out.2⟩))
  all_goals
    go_wp2_with fail
    go_ret2
    exact ⟨rfl, HB.out.drew.trans (hb88.mono HB.out.size)⟩
end Go.Proofs.YtakoagfeiolkjabDoor
