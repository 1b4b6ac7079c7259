/-
Contracts of functions of this seat.
-/
import Derived.Test.YtakoagfeiolkjabDoorRows
import Derived.WalkKit
import Derived.ProofKit
import Derived.OpenShut
import Derived.Test.YtakoagfeiolkjabDoorIt0
namespace Go.Proofs.YtakoagfeiolkjabDoor
open Go.ChangeShapes Go.WideShapes Go.ChangeAt Go.RowKit
set_option linter.unusedVariables false
set_option maxRecDepth 100000
theorem far3 {w : World} {R F j : Nat} (h : R ≠ F) {v : Option Value} {x0 x1 x2 : Value} (k : w.cell? ⟨F, j, none⟩ = v) : (((w.setCell ⟨R, 0, none⟩ x0).setCell ⟨R, 1, none⟩ x1).setCell ⟨R, 2, none⟩ x2).cell? ⟨F, j, none⟩ = v := (World.cell?_setCell_far _ _ _ _ h).trans ((World.cell?_setCell_far _ _ _ _ h).trans ((World.cell?_setCell_far _ _ _ _ h).trans (k)))
set_option maxHeartbeats 8000000 in
theorem implDecU_f1 (a : Option Addr) (n cap : Nat) (zs : List Int) (w : World) (hn : zs.length = n) (ha : Arr w a zs) (hm : n ≤ 1048576) (he : ErrT w) (s d : Int) (ha0 : adrB s = false) :
    Calls Tryd.prog 19 #[.slice a n cap, .int .i64 s, .int .i64 d] w fun e w' => e = .returned (.tuple #[.agg #[.int .i64 0, .int .i64 0, .slice none 0 0], .int .i64 1]) ∧ Below w.heap.size w w' := by
  have HS0 := hide (DS0.start w #[.int .i64 0, .int .i64 0, .slice none 0 0] 36 (.slice a n cap))
  have HA := hide ha
  have HN := hide hn
  have hm2 : n ≤ 1048576 := by omega
  have HE := hide he
  clear he
  have _t : True := trivial
  clear ha hn
  go_enter Tryd.func19, Tryd.ntmps19
  go_wp2_with (first | (go_at_call 50; refine (isAddr_walk _ _).mono ?_; rintro e w' ⟨rfl, rfl⟩))
  generalize hW : (w.alloc (.cells #[.int .i64 0, .int .i64 0, .slice none 0 0] 36)).alloc (.cells #[.slice a n cap, .int .i64 0, .nilIface] 69) = W0 at *
  clear hW
  refine (demand_no (w.heap.size + 1) 0 (.slice a n cap) _ _ HS0.out.2.2).mono ?_
  rintro e X1 ⟨rfl, hc, hg⟩
  have HS1 := hide (HS0.out.moved hg hc)
  clear hc hg HS0
  go_wp2_with fail
  refine (demand_err (w.heap.size + 1) 0 (.slice a n cap) 1 _ _ _ HS1.out.2.2).mono ?_
  rintro e w' ⟨rfl, hw⟩
  rw [hw]
  clear hw
  have HT2 := hide (DS1.start HS1.out #[.int .i64 0, .int .i64 0, .slice none 0 0] 36)
  have hF : w.heap.size + 1 < X1.heap.size := HS1.out.2.2.lt
  clear HS1
  go_wp2_with fail
  generalize hV : X1.alloc (.cells #[.int .i64 0, .int .i64 0, .slice none 0 0] 36) = X2 at *
  clear hV
  generalize X1.heap.size = F at *
  refine (take_err (w.heap.size + 1) 0 n cap _ 1 2 _ HT2.out.1.2.2 (by omega) (by omega) (by omega) (by omega)).mono ?_
  rintro e w' ⟨rfl, mm, rfl⟩
  have HT3 : Hid (DS1 w (X2.drewN mm) #[.int .i64 0, .int .i64 0, .slice none 0 0] 36 (.slice a n cap) (0) (wErr 1) F #[.int .i64 0, .int .i64 0, .slice none 0 0] 36) := hide (HT2.out.drewN mm)
  generalize X2.drewN mm = X3 at *
  clear HT2
  have k0 := HT3.out.2.1.cell 0 _ rfl
  have fz := HT3.out.2.1.frozen
  have HT4 : Hid (DS1 w (X3.setCell ⟨F, 0, none⟩ (.int .i64 0)) #[.int .i64 0, .int .i64 0, .slice none 0 0] 36 (.slice a n cap) (0) (wErr 1) F #[.int .i64 0, .int .i64 0, .slice none 0 0] 36) := hide (HT3.out.set 0 (.int .i64 0))
  go_wp2_with fail
  generalize X3.setCell ⟨F, 0, none⟩ (.int .i64 0) = X4 at *
  clear k0 fz HT3
  refine (take_err (w.heap.size + 1) 0 n cap _ 1 2 _ HT4.out.1.2.2 (by omega) (by omega) (by omega) (by omega)).mono ?_
  rintro e w' ⟨rfl, mm, rfl⟩
  have HT5 : Hid (DS1 w (X4.drewN mm) #[.int .i64 0, .int .i64 0, .slice none 0 0] 36 (.slice a n cap) (0) (wErr 1) F #[.int .i64 0, .int .i64 0, .slice none 0 0] 36) := hide (HT4.out.drewN mm)
  generalize X4.drewN mm = X5 at *
  clear HT4
  have k0 := HT5.out.2.1.cell 1 _ rfl
  have fz := HT5.out.2.1.frozen
  have HT6 : Hid (DS1 w (X5.setCell ⟨F, 1, none⟩ (.int .i64 0)) #[.int .i64 0, .int .i64 0, .slice none 0 0] 36 (.slice a n cap) (0) (wErr 1) F #[.int .i64 0, .int .i64 0, .slice none 0 0] 36) := hide (HT5.out.set 1 (.int .i64 0))
  go_wp2_with fail
  generalize X5.setCell ⟨F, 1, none⟩ (.int .i64 0) = X6 at *
  clear k0 fz HT5
  refine (take_err (w.heap.size + 1) 0 n cap _ 1 2 _ HT6.out.1.2.2 (by omega) (by omega) (by omega) (by omega)).mono ?_
  rintro e w' ⟨rfl, mm, rfl⟩
  have HT7 : Hid (DS1 w (X6.drewN mm) #[.int .i64 0, .int .i64 0, .slice none 0 0] 36 (.slice a n cap) (0) (wErr 1) F #[.int .i64 0, .int .i64 0, .slice none 0 0] 36) := hide (HT6.out.drewN mm)
  generalize X6.drewN mm = X7 at *
  clear HT6
  go_wp2_with fail
  refine (demand_err (w.heap.size + 1) 0 (.slice a n cap) 1 _ _ _ HT7.out.1.2.2).mono ?_
  rintro e w' ⟨rfl, hw⟩
  rw [hw]
  clear hw
  go_wp2_with fail
  refine (take_err (w.heap.size + 1) 0 n cap _ 1 2 _ HT7.out.1.2.2 (by omega) (by omega) (by omega) (by omega)).mono ?_
  rintro e w' ⟨rfl, mm, rfl⟩
  have HT8 : Hid (DS1 w (X7.drewN mm) #[.int .i64 0, .int .i64 0, .slice none 0 0] 36 (.slice a n cap) (0) (wErr 1) F #[.int .i64 0, .int .i64 0, .slice none 0 0] 36) := hide (HT7.out.drewN mm)
  generalize X7.drewN mm = X8 at *
  clear HT7
  go_wp2_with fail
  refine (demand_err (w.heap.size + 1) 0 (.slice a n cap) 1 _ _ _ HT8.out.1.2.2).mono ?_
  rintro e w' ⟨rfl, hw⟩
  rw [hw]
  clear hw
  go_wp2_with fail
  refine (left_walk (w.heap.size + 1) 0 n cap _ _ _ HT8.out.1.2.2 (by omega) (by omega)).mono ?_
  rintro e w' ⟨rfl, mm, rfl⟩
  have HT9 : Hid (DS1 w (X8.drewN mm) #[.int .i64 0, .int .i64 0, .slice none 0 0] 36 (.slice a n cap) (0) (wErr 1) F #[.int .i64 0, .int .i64 0, .slice none 0 0] 36) := hide (HT8.out.drewN mm)
  generalize X8.drewN mm = X9 at *
  clear HT8
  go_wp2_with fail
  have C := hide (takeBytes_err (w.heap.size + 1) 0 n cap _ 1 ((n : Int) - 0) X9 HT9.out.1.2.2 (by omega) (by omega) (by omega) (by omega))
  
  refine C.out.mono ?_
  rintro e X10 ⟨rfl, hb⟩
  have HT10 := hide (HT9.out.next hb)
  clear C hb HT9
  generalize X9.heap.size = XB at *
  have k0 := HT10.out.2.1.cell 2 _ rfl
  have fz := HT10.out.2.1.frozen
  have HT11 : Hid (DS1 w (X10.setCell ⟨F, 2, none⟩ (.slice (some ⟨XB, 0, none⟩) 0 0)) #[.int .i64 0, .int .i64 0, .slice none 0 0] 36 (.slice a n cap) (0) (wErr 1) F #[.int .i64 0, .int .i64 0, .slice (some ⟨XB, 0, none⟩) 0 0] 36) := hide (HT10.out.set 2 (.slice (some ⟨XB, 0, none⟩) 0 0))
  go_wp2_with fail
  generalize X10.setCell ⟨F, 2, none⟩ (.slice (some ⟨XB, 0, none⟩) 0 0) = X11 at *
  clear k0 fz HT10
  have HTD := hide (HT11.out.drew)
  have HE7 := hide (HE.out.below HTD.out.1.1 (Nat.le_refl _))
  clear HE
  have CA := hide (ansDatagram_err (0) (0) (some ⟨XB, 0, none⟩) 0 0 1 (by decide) X11.drew HE7.out)
  have HK : Hid (X11.drew.cell? ⟨F, 0, none⟩ = some (.int .i64 0) ∧ X11.drew.cell? ⟨F, 1, none⟩ = some (.int .i64 0) ∧ X11.drew.cell? ⟨F, 2, none⟩ = some (.slice (some ⟨XB, 0, none⟩) 0 0) ∧ X11.drew.cell? ⟨w.heap.size + 1, 2, none⟩ = some (wErr 1)) := hide ⟨HTD.out.2.1.cell 0 _ rfl, HTD.out.2.1.cell 1 _ rfl, HTD.out.2.1.cell 2 _ rfl, HTD.out.1.2.2.cells.2.2.1⟩
  have hRF : w.heap.size ≠ F := by omega
  have hRC : w.heap.size ≠ w.heap.size + 1 := by omega
  clear HT11 HE7
  go_region_held3 (fun w' => w'.cell? ⟨F, 0, none⟩ = some (.int .i64 0) ∧ w'.cell? ⟨F, 1, none⟩ = some (.int .i64 0) ∧ w'.cell? ⟨F, 2, none⟩ = some (.slice (some ⟨XB, 0, none⟩) 0 0) ∧ w'.cell? ⟨w.heap.size + 1, 2, none⟩ = some (wErr 1)) (first | with_reducible assumption | with_reducible exact HK.out | exact ⟨far3 hRF hk9.1, far3 hRF hk9.2.1, far3 hRF hk9.2.2.1, far3 hRC hk9.2.2.2⟩)
    ((go_at_call 55; refine CA.out.mono ?_; rintro e w8 ⟨rfl, hb8⟩; have hk9 : w8.cell? ⟨F, 0, none⟩ = some (.int .i64 0) ∧ w8.cell? ⟨F, 1, none⟩ = some (.int .i64 0) ∧ w8.cell? ⟨F, 2, none⟩ = some (.slice (some ⟨XB, 0, none⟩) 0 0) ∧ w8.cell? ⟨w.heap.size + 1, 2, none⟩ = some (wErr 1) := ⟨(HTD.out.next hb8).2.1.cell 0 _ rfl, (HTD.out.next hb8).2.1.cell 1 _ rfl, (HTD.out.next hb8).2.1.cell 2 _ rfl, (HTD.out.next hb8).1.2.2.cells.2.2.1⟩; have d0 := (HTD.out.next hb8).1.2.1.cell 0 _ rfl; have d1 := (HTD.out.next hb8).1.2.1.cell 1 _ rfl; have d2 := (HTD.out.next hb8).1.2.1.cell 2 _ rfl; have fz := (HTD.out.next hb8).1.2.1.frozen))
  all_goals
    have HT9 := hide (HTD.out.next hb8)
    clear hb8 HTD CA HK hk9
    go_wp2_with fail
    exact bodyPost_ret (v := .tuple #[.agg #[.int .i64 0, .int .i64 0, .slice none 0 0], .int .i64 1]) (by simp [results, Tryd.results19, go_sem, d0, d1, d2]) rfl ⟨rfl, (((HT9.out.1.1.setCell (p := ⟨w.heap.size, 0, none⟩) (Nat.le_refl _) _).setCell (p := ⟨w.heap.size, 1, none⟩) (Nat.le_refl _) _).setCell (p := ⟨w.heap.size, 2, none⟩) (Nat.le_refl _) _)⟩
set_option maxHeartbeats 8000000 in
theorem implDecU_f2 (a : Option Addr) (n cap : Nat) (zs : List Int) (w : World) (hn : zs.length = n) (ha : Arr w a zs) (hm : n ≤ 1048576) (he : ErrT w) (s d : Int) (ha0 : adrB s = true) (ha1 : adrB d = false) :
    Calls Tryd.prog 19 #[.slice a n cap, .int .i64 s, .int .i64 d] w fun e w' => e = .returned (.tuple #[.agg #[.int .i64 0, .int .i64 0, .slice none 0 0], .int .i64 1]) ∧ Below w.heap.size w w' := by
  have HS0 := hide (DS0.start w #[.int .i64 0, .int .i64 0, .slice none 0 0] 36 (.slice a n cap))
  have HA := hide ha
  have HN := hide hn
  have hm2 : n ≤ 1048576 := by omega
  have HE := hide he
  clear he
  have _t : True := trivial
  clear ha hn
  go_enter Tryd.func19, Tryd.ntmps19
  go_wp2_with (first | (go_at_call 50; refine (isAddr_walk _ _).mono ?_; rintro e w' ⟨rfl, rfl⟩))
  generalize hW : (w.alloc (.cells #[.int .i64 0, .int .i64 0, .slice none 0 0] 36)).alloc (.cells #[.slice a n cap, .int .i64 0, .nilIface] 69) = W0 at *
  clear hW
  refine (demand_no (w.heap.size + 1) 0 (.slice a n cap) _ _ HS0.out.2.2).mono ?_
  rintro e X1 ⟨rfl, hc, hg⟩
  have HS1 := hide (HS0.out.moved hg hc)
  clear hc hg HS0
  go_wp2_with fail
  refine (demand_err (w.heap.size + 1) 0 (.slice a n cap) 1 _ _ _ HS1.out.2.2).mono ?_
  rintro e w' ⟨rfl, hw⟩
  rw [hw]
  clear hw
  have HT2 := hide (DS1.start HS1.out #[.int .i64 0, .int .i64 0, .slice none 0 0] 36)
  have hF : w.heap.size + 1 < X1.heap.size := HS1.out.2.2.lt
  clear HS1
  go_wp2_with fail
  generalize hV : X1.alloc (.cells #[.int .i64 0, .int .i64 0, .slice none 0 0] 36) = X2 at *
  clear hV
  generalize X1.heap.size = F at *
  refine (take_err (w.heap.size + 1) 0 n cap _ 1 2 _ HT2.out.1.2.2 (by omega) (by omega) (by omega) (by omega)).mono ?_
  rintro e w' ⟨rfl, mm, rfl⟩
  have HT3 : Hid (DS1 w (X2.drewN mm) #[.int .i64 0, .int .i64 0, .slice none 0 0] 36 (.slice a n cap) (0) (wErr 1) F #[.int .i64 0, .int .i64 0, .slice none 0 0] 36) := hide (HT2.out.drewN mm)
  generalize X2.drewN mm = X3 at *
  clear HT2
  have k0 := HT3.out.2.1.cell 0 _ rfl
  have fz := HT3.out.2.1.frozen
  have HT4 : Hid (DS1 w (X3.setCell ⟨F, 0, none⟩ (.int .i64 0)) #[.int .i64 0, .int .i64 0, .slice none 0 0] 36 (.slice a n cap) (0) (wErr 1) F #[.int .i64 0, .int .i64 0, .slice none 0 0] 36) := hide (HT3.out.set 0 (.int .i64 0))
  go_wp2_with fail
  generalize X3.setCell ⟨F, 0, none⟩ (.int .i64 0) = X4 at *
  clear k0 fz HT3
  refine (take_err (w.heap.size + 1) 0 n cap _ 1 2 _ HT4.out.1.2.2 (by omega) (by omega) (by omega) (by omega)).mono ?_
  rintro e w' ⟨rfl, mm, rfl⟩
  have HT5 : Hid (DS1 w (X4.drewN mm) #[.int .i64 0, .int .i64 0, .slice none 0 0] 36 (.slice a n cap) (0) (wErr 1) F #[.int .i64 0, .int .i64 0, .slice none 0 0] 36) := hide (HT4.out.drewN mm)
  generalize X4.drewN mm = X5 at *
  clear HT4
  have k0 := HT5.out.2.1.cell 1 _ rfl
  have fz := HT5.out.2.1.frozen
  have HT6 : Hid (DS1 w (X5.setCell ⟨F, 1, none⟩ (.int .i64 0)) #[.int .i64 0, .int .i64 0, .slice none 0 0] 36 (.slice a n cap) (0) (wErr 1) F #[.int .i64 0, .int .i64 0, .slice none 0 0] 36) := hide (HT5.out.set 1 (.int .i64 0))
  go_wp2_with fail
  generalize X5.setCell ⟨F, 1, none⟩ (.int .i64 0) = X6 at *
  clear k0 fz HT5
  refine (take_err (w.heap.size + 1) 0 n cap _ 1 2 _ HT6.out.1.2.2 (by omega) (by omega) (by omega) (by omega)).mono ?_
  rintro e w' ⟨rfl, mm, rfl⟩
  have HT7 : Hid (DS1 w (X6.drewN mm) #[.int .i64 0, .int .i64 0, .slice none 0 0] 36 (.slice a n cap) (0) (wErr 1) F #[.int .i64 0, .int .i64 0, .slice none 0 0] 36) := hide (HT6.out.drewN mm)
  generalize X6.drewN mm = X7 at *
  clear HT6
  go_wp2_with fail
  refine (demand_err (w.heap.size + 1) 0 (.slice a n cap) 1 _ _ _ HT7.out.1.2.2).mono ?_
  rintro e w' ⟨rfl, hw⟩
  rw [hw]
  clear hw
  go_wp2_with fail
  refine (take_err (w.heap.size + 1) 0 n cap _ 1 2 _ HT7.out.1.2.2 (by omega) (by omega) (by omega) (by omega)).mono ?_
  rintro e w' ⟨rfl, mm, rfl⟩
  have HT8 : Hid (DS1 w (X7.drewN mm) #[.int .i64 0, .int .i64 0, .slice none 0 0] 36 (.slice a n cap) (0) (wErr 1) F #[.int .i64 0, .int .i64 0, .slice none 0 0] 36) := hide (HT7.out.drewN mm)
  generalize X7.drewN mm = X8 at *
  clear HT7
  go_wp2_with fail
  refine (demand_err (w.heap.size + 1) 0 (.slice a n cap) 1 _ _ _ HT8.out.1.2.2).mono ?_
  rintro e w' ⟨rfl, hw⟩
  rw [hw]
  clear hw
  go_wp2_with fail
  refine (left_walk (w.heap.size + 1) 0 n cap _ _ _ HT8.out.1.2.2 (by omega) (by omega)).mono ?_
  rintro e w' ⟨rfl, mm, rfl⟩
  have HT9 : Hid (DS1 w (X8.drewN mm) #[.int .i64 0, .int .i64 0, .slice none 0 0] 36 (.slice a n cap) (0) (wErr 1) F #[.int .i64 0, .int .i64 0, .slice none 0 0] 36) := hide (HT8.out.drewN mm)
  generalize X8.drewN mm = X9 at *
  clear HT8
  go_wp2_with fail
  have C := hide (takeBytes_err (w.heap.size + 1) 0 n cap _ 1 ((n : Int) - 0) X9 HT9.out.1.2.2 (by omega) (by omega) (by omega) (by omega))
  
  refine C.out.mono ?_
  rintro e X10 ⟨rfl, hb⟩
  have HT10 := hide (HT9.out.next hb)
  clear C hb HT9
  generalize X9.heap.size = XB at *
  have k0 := HT10.out.2.1.cell 2 _ rfl
  have fz := HT10.out.2.1.frozen
  have HT11 : Hid (DS1 w (X10.setCell ⟨F, 2, none⟩ (.slice (some ⟨XB, 0, none⟩) 0 0)) #[.int .i64 0, .int .i64 0, .slice none 0 0] 36 (.slice a n cap) (0) (wErr 1) F #[.int .i64 0, .int .i64 0, .slice (some ⟨XB, 0, none⟩) 0 0] 36) := hide (HT10.out.set 2 (.slice (some ⟨XB, 0, none⟩) 0 0))
  go_wp2_with fail
  generalize X10.setCell ⟨F, 2, none⟩ (.slice (some ⟨XB, 0, none⟩) 0 0) = X11 at *
  clear k0 fz HT10
  have HTD := hide (HT11.out.drew)
  have HE7 := hide (HE.out.below HTD.out.1.1 (Nat.le_refl _))
  clear HE
  have CA := hide (ansDatagram_err (0) (0) (some ⟨XB, 0, none⟩) 0 0 1 (by decide) X11.drew HE7.out)
  have HK : Hid (X11.drew.cell? ⟨F, 0, none⟩ = some (.int .i64 0) ∧ X11.drew.cell? ⟨F, 1, none⟩ = some (.int .i64 0) ∧ X11.drew.cell? ⟨F, 2, none⟩ = some (.slice (some ⟨XB, 0, none⟩) 0 0) ∧ X11.drew.cell? ⟨w.heap.size + 1, 2, none⟩ = some (wErr 1)) := hide ⟨HTD.out.2.1.cell 0 _ rfl, HTD.out.2.1.cell 1 _ rfl, HTD.out.2.1.cell 2 _ rfl, HTD.out.1.2.2.cells.2.2.1⟩
  have hRF : w.heap.size ≠ F := by omega
  have hRC : w.heap.size ≠ w.heap.size + 1 := by omega
  clear HT11 HE7
  go_region_held3 (fun w' => w'.cell? ⟨F, 0, none⟩ = some (.int .i64 0) ∧ w'.cell? ⟨F, 1, none⟩ = some (.int .i64 0) ∧ w'.cell? ⟨F, 2, none⟩ = some (.slice (some ⟨XB, 0, none⟩) 0 0) ∧ w'.cell? ⟨w.heap.size + 1, 2, none⟩ = some (wErr 1)) (first | with_reducible assumption | with_reducible exact HK.out | exact ⟨far3 hRF hk9.1, far3 hRF hk9.2.1, far3 hRF hk9.2.2.1, far3 hRC hk9.2.2.2⟩)
    ((go_at_call 55; refine CA.out.mono ?_; rintro e w8 ⟨rfl, hb8⟩; have hk9 : w8.cell? ⟨F, 0, none⟩ = some (.int .i64 0) ∧ w8.cell? ⟨F, 1, none⟩ = some (.int .i64 0) ∧ w8.cell? ⟨F, 2, none⟩ = some (.slice (some ⟨XB, 0, none⟩) 0 0) ∧ w8.cell? ⟨w.heap.size + 1, 2, none⟩ = some (wErr 1) := ⟨(HTD.out.next hb8).2.1.cell 0 _ rfl, (HTD.out.next hb8).2.1.cell 1 _ rfl, (HTD.out.next hb8).2.1.cell 2 _ rfl, (HTD.out.next hb8).1.2.2.cells.2.2.1⟩; have d0 := (HTD.out.next hb8).1.2.1.cell 0 _ rfl; have d1 := (HTD.out.next hb8).1.2.1.cell 1 _ rfl; have d2 := (HTD.out.next hb8).1.2.1.cell 2 _ rfl; have fz := (HTD.out.next hb8).1.2.1.frozen))
  all_goals
    have HT9 := hide (HTD.out.next hb8)
    clear hb8 HTD CA HK hk9
    go_wp2_with fail
    exact bodyPost_ret (v := .tuple #[.agg #[.int .i64 0, .int .i64 0, .slice none 0 0], .int .i64 1]) (by simp [results, Tryd.results19, go_sem, d0, d1, d2]) rfl ⟨rfl, (((HT9.out.1.1.setCell (p := ⟨w.heap.size, 0, none⟩) (Nat.le_refl _) _).setCell (p := ⟨w.heap.size, 1, none⟩) (Nat.le_refl _) _).setCell (p := ⟨w.heap.size, 2, none⟩) (Nat.le_refl _) _)⟩
set_option maxHeartbeats 8000000 in
theorem implDecU_short (a : Option Addr) (n cap : Nat) (zs : List Int) (w : World) (hn : zs.length = n) (ha : Arr w a zs) (hm : n ≤ 1048576) (he : ErrT w) (s d : Int) (ha0 : adrB s = true) (ha1 : adrB d = true) (h : n < 8) :
    Calls Tryd.prog 19 #[.slice a n cap, .int .i64 s, .int .i64 d] w fun e w' => e = .returned (.tuple #[.agg #[.int .i64 0, .int .i64 0, .slice none 0 0], .int .i64 2]) ∧ Below w.heap.size w w' := by
  have HS0 := hide (DS0.start w #[.int .i64 0, .int .i64 0, .slice none 0 0] 36 (.slice a n cap))
  have HA := hide ha
  have HN := hide hn
  have hm2 : n ≤ 1048576 := by omega
  have HE := hide he
  clear he
  have hd1 : decide ((8 : Int) ≤ (n : Int)) = false := decide_eq_false (by omega)
  clear ha hn
  go_enter Tryd.func19, Tryd.ntmps19
  go_wp2_with (first | (go_at_call 50; refine (isAddr_walk _ _).mono ?_; rintro e w' ⟨rfl, rfl⟩))
  generalize hW : (w.alloc (.cells #[.int .i64 0, .int .i64 0, .slice none 0 0] 36)).alloc (.cells #[.slice a n cap, .int .i64 0, .nilIface] 69) = W0 at *
  clear hW
  refine (demand_yes (w.heap.size + 1) 0 (.slice a n cap) _ _ HS0.out.2.2).mono ?_
  rintro e w' ⟨rfl, hw⟩
  rw [hw]
  clear hw
  go_wp2_with fail
  refine (demand_no (w.heap.size + 1) 0 (.slice a n cap) _ _ HS0.out.2.2).mono ?_
  rintro e X1 ⟨rfl, hc, hg⟩
  have HS1 := hide (HS0.out.moved hg hc)
  clear hc hg HS0
  have HT2 := hide (DS1.start HS1.out #[.int .i64 0, .int .i64 0, .slice none 0 0] 36)
  have hF : w.heap.size + 1 < X1.heap.size := HS1.out.2.2.lt
  clear HS1
  go_wp2_with fail
  generalize hV : X1.alloc (.cells #[.int .i64 0, .int .i64 0, .slice none 0 0] 36) = X2 at *
  clear hV
  generalize X1.heap.size = F at *
  refine (take_err (w.heap.size + 1) 0 n cap _ 2 2 _ HT2.out.1.2.2 (by omega) (by omega) (by omega) (by omega)).mono ?_
  rintro e w' ⟨rfl, mm, rfl⟩
  have HT3 : Hid (DS1 w (X2.drewN mm) #[.int .i64 0, .int .i64 0, .slice none 0 0] 36 (.slice a n cap) (0) (wErr 2) F #[.int .i64 0, .int .i64 0, .slice none 0 0] 36) := hide (HT2.out.drewN mm)
  generalize X2.drewN mm = X3 at *
  clear HT2
  have k0 := HT3.out.2.1.cell 0 _ rfl
  have fz := HT3.out.2.1.frozen
  have HT4 : Hid (DS1 w (X3.setCell ⟨F, 0, none⟩ (.int .i64 0)) #[.int .i64 0, .int .i64 0, .slice none 0 0] 36 (.slice a n cap) (0) (wErr 2) F #[.int .i64 0, .int .i64 0, .slice none 0 0] 36) := hide (HT3.out.set 0 (.int .i64 0))
  go_wp2_with fail
  generalize X3.setCell ⟨F, 0, none⟩ (.int .i64 0) = X4 at *
  clear k0 fz HT3
  refine (take_err (w.heap.size + 1) 0 n cap _ 2 2 _ HT4.out.1.2.2 (by omega) (by omega) (by omega) (by omega)).mono ?_
  rintro e w' ⟨rfl, mm, rfl⟩
  have HT5 : Hid (DS1 w (X4.drewN mm) #[.int .i64 0, .int .i64 0, .slice none 0 0] 36 (.slice a n cap) (0) (wErr 2) F #[.int .i64 0, .int .i64 0, .slice none 0 0] 36) := hide (HT4.out.drewN mm)
  generalize X4.drewN mm = X5 at *
  clear HT4
  have k0 := HT5.out.2.1.cell 1 _ rfl
  have fz := HT5.out.2.1.frozen
  have HT6 : Hid (DS1 w (X5.setCell ⟨F, 1, none⟩ (.int .i64 0)) #[.int .i64 0, .int .i64 0, .slice none 0 0] 36 (.slice a n cap) (0) (wErr 2) F #[.int .i64 0, .int .i64 0, .slice none 0 0] 36) := hide (HT5.out.set 1 (.int .i64 0))
  go_wp2_with fail
  generalize X5.setCell ⟨F, 1, none⟩ (.int .i64 0) = X6 at *
  clear k0 fz HT5
  refine (take_err (w.heap.size + 1) 0 n cap _ 2 2 _ HT6.out.1.2.2 (by omega) (by omega) (by omega) (by omega)).mono ?_
  rintro e w' ⟨rfl, mm, rfl⟩
  have HT7 : Hid (DS1 w (X6.drewN mm) #[.int .i64 0, .int .i64 0, .slice none 0 0] 36 (.slice a n cap) (0) (wErr 2) F #[.int .i64 0, .int .i64 0, .slice none 0 0] 36) := hide (HT6.out.drewN mm)
  generalize X6.drewN mm = X7 at *
  clear HT6
  go_wp2_with fail
  refine (demand_err (w.heap.size + 1) 0 (.slice a n cap) 2 _ _ _ HT7.out.1.2.2).mono ?_
  rintro e w' ⟨rfl, hw⟩
  rw [hw]
  clear hw
  go_wp2_with fail
  refine (take_err (w.heap.size + 1) 0 n cap _ 2 2 _ HT7.out.1.2.2 (by omega) (by omega) (by omega) (by omega)).mono ?_
  rintro e w' ⟨rfl, mm, rfl⟩
  have HT8 : Hid (DS1 w (X7.drewN mm) #[.int .i64 0, .int .i64 0, .slice none 0 0] 36 (.slice a n cap) (0) (wErr 2) F #[.int .i64 0, .int .i64 0, .slice none 0 0] 36) := hide (HT7.out.drewN mm)
  generalize X7.drewN mm = X8 at *
  clear HT7
  go_wp2_with fail
  refine (demand_err (w.heap.size + 1) 0 (.slice a n cap) 2 _ _ _ HT8.out.1.2.2).mono ?_
  rintro e w' ⟨rfl, hw⟩
  rw [hw]
  clear hw
  go_wp2_with fail
  refine (left_walk (w.heap.size + 1) 0 n cap _ _ _ HT8.out.1.2.2 (by omega) (by omega)).mono ?_
  rintro e w' ⟨rfl, mm, rfl⟩
  have HT9 : Hid (DS1 w (X8.drewN mm) #[.int .i64 0, .int .i64 0, .slice none 0 0] 36 (.slice a n cap) (0) (wErr 2) F #[.int .i64 0, .int .i64 0, .slice none 0 0] 36) := hide (HT8.out.drewN mm)
  generalize X8.drewN mm = X9 at *
  clear HT8
  go_wp2_with fail
  have C := hide (takeBytes_err (w.heap.size + 1) 0 n cap _ 2 ((n : Int) - 0) X9 HT9.out.1.2.2 (by omega) (by omega) (by omega) (by omega))
  
  refine C.out.mono ?_
  rintro e X10 ⟨rfl, hb⟩
  have HT10 := hide (HT9.out.next hb)
  clear C hb HT9
  generalize X9.heap.size = XB at *
  have k0 := HT10.out.2.1.cell 2 _ rfl
  have fz := HT10.out.2.1.frozen
  have HT11 : Hid (DS1 w (X10.setCell ⟨F, 2, none⟩ (.slice (some ⟨XB, 0, none⟩) 0 0)) #[.int .i64 0, .int .i64 0, .slice none 0 0] 36 (.slice a n cap) (0) (wErr 2) F #[.int .i64 0, .int .i64 0, .slice (some ⟨XB, 0, none⟩) 0 0] 36) := hide (HT10.out.set 2 (.slice (some ⟨XB, 0, none⟩) 0 0))
  go_wp2_with fail
  generalize X10.setCell ⟨F, 2, none⟩ (.slice (some ⟨XB, 0, none⟩) 0 0) = X11 at *
  clear k0 fz HT10
  have HTD := hide (HT11.out.drew)
  have HE7 := hide (HE.out.below HTD.out.1.1 (Nat.le_refl _))
  clear HE
  have CA := hide (ansDatagram_err (0) (0) (some ⟨XB, 0, none⟩) 0 0 2 (by decide) X11.drew HE7.out)
  have HK : Hid (X11.drew.cell? ⟨F, 0, none⟩ = some (.int .i64 0) ∧ X11.drew.cell? ⟨F, 1, none⟩ = some (.int .i64 0) ∧ X11.drew.cell? ⟨F, 2, none⟩ = some (.slice (some ⟨XB, 0, none⟩) 0 0) ∧ X11.drew.cell? ⟨w.heap.size + 1, 2, none⟩ = some (wErr 2)) := hide ⟨HTD.out.2.1.cell 0 _ rfl, HTD.out.2.1.cell 1 _ rfl, HTD.out.2.1.cell 2 _ rfl, HTD.out.1.2.2.cells.2.2.1⟩
  have hRF : w.heap.size ≠ F := by omega
  have hRC : w.heap.size ≠ w.heap.size + 1 := by omega
  clear HT11 HE7
  go_region_held3 (fun w' => w'.cell? ⟨F, 0, none⟩ = some (.int .i64 0) ∧ w'.cell? ⟨F, 1, none⟩ = some (.int .i64 0) ∧ w'.cell? ⟨F, 2, none⟩ = some (.slice (some ⟨XB, 0, none⟩) 0 0) ∧ w'.cell? ⟨w.heap.size + 1, 2, none⟩ = some (wErr 2)) (first | with_reducible assumption | with_reducible exact HK.out | exact ⟨far3 hRF hk9.1, far3 hRF hk9.2.1, far3 hRF hk9.2.2.1, far3 hRC hk9.2.2.2⟩)
    ((go_at_call 55; refine CA.out.mono ?_; rintro e w8 ⟨rfl, hb8⟩; have hk9 : w8.cell? ⟨F, 0, none⟩ = some (.int .i64 0) ∧ w8.cell? ⟨F, 1, none⟩ = some (.int .i64 0) ∧ w8.cell? ⟨F, 2, none⟩ = some (.slice (some ⟨XB, 0, none⟩) 0 0) ∧ w8.cell? ⟨w.heap.size + 1, 2, none⟩ = some (wErr 2) := ⟨(HTD.out.next hb8).2.1.cell 0 _ rfl, (HTD.out.next hb8).2.1.cell 1 _ rfl, (HTD.out.next hb8).2.1.cell 2 _ rfl, (HTD.out.next hb8).1.2.2.cells.2.2.1⟩; have d0 := (HTD.out.next hb8).1.2.1.cell 0 _ rfl; have d1 := (HTD.out.next hb8).1.2.1.cell 1 _ rfl; have d2 := (HTD.out.next hb8).1.2.1.cell 2 _ rfl; have fz := (HTD.out.next hb8).1.2.1.frozen))
  all_goals
    have HT9 := hide (HTD.out.next hb8)
    clear hb8 HTD CA HK hk9
    go_wp2_with fail
    exact bodyPost_ret (v := .tuple #[.agg #[.int .i64 0, .int .i64 0, .slice none 0 0], .int .i64 2]) (by simp [results, Tryd.results19, go_sem, d0, d1, d2]) rfl ⟨rfl, (((HT9.out.1.1.setCell (p := ⟨w.heap.size, 0, none⟩) (Nat.le_refl _) _).setCell (p := ⟨w.heap.size, 1, none⟩) (Nat.le_refl _) _).setCell (p := ⟨w.heap.size, 2, none⟩) (Nat.le_refl _) _)⟩
set_option maxHeartbeats 8000000 in
theorem implDecU_len (b off n cap : Nat) (zs : List Int) (w : World) (hn : zs.length = n) (ha : Arr w (some ⟨b, off, none⟩) zs) (hm : n ≤ 1048576) (hcap : n ≤ cap) (h8 : 8 ≤ n) (he : ErrT w) (s d : Int) (ha0 : adrB s = true) (ha1 : adrB d = true) (y0 y1 y2 : Int) (hy0 : tnum ((zs.drop 0).take 2) = y0) (hy1 : tnum ((zs.drop 2).take 2) = y1) (hy2 : tnum ((zs.drop 4).take 2) = y2) (hl : ¬ y2 = (n : Int)) :
    Calls Tryd.prog 19 #[.slice (some ⟨b, off, none⟩) n cap, .int .i64 s, .int .i64 d] w fun e w' => e = .returned (.tuple #[.agg #[.int .i64 0, .int .i64 0, .slice none 0 0], .int .i64 5]) ∧ Below w.heap.size w w' := by
  have HS0 := hide (DS0.start w #[.int .i64 0, .int .i64 0, .slice none 0 0] 36 (.slice (some ⟨b, off, none⟩) n cap))
  have HA := hide ha
  have HN := hide hn
  have hm2 : n ≤ 1048576 := by omega
  obtain ⟨_, _, e0, hbl, _⟩ := ha.2 0 (by omega)
  cases e0
  have hbne : b ≠ w.heap.size + 1 := by omega
  have HE := hide he
  clear he
  have hd1 : decide ((8 : Int) ≤ (n : Int)) = true := decide_eq_true (by omega)
  have hd2 : (y2 == (n : Int)) = false := by simpa using hl
  have HY0 := hide hy0
  have HY1 := hide hy1
  have HY2 := hide hy2
  clear hy0 hy1 hy2
  clear hl
  clear ha hn
  go_enter Tryd.func19, Tryd.ntmps19
  go_wp2_with (first | (go_at_call 50; refine (isAddr_walk _ _).mono ?_; rintro e w' ⟨rfl, rfl⟩))
  generalize hW : (w.alloc (.cells #[.int .i64 0, .int .i64 0, .slice none 0 0] 36)).alloc (.cells #[.slice (some ⟨b, off, none⟩) n cap, .int .i64 0, .nilIface] 69) = W0 at *
  clear hW
  refine (demand_yes (w.heap.size + 1) 0 (.slice (some ⟨b, off, none⟩) n cap) _ _ HS0.out.2.2).mono ?_
  rintro e w' ⟨rfl, hw⟩
  rw [hw]
  clear hw
  go_wp2_with fail
  refine (demand_yes (w.heap.size + 1) 0 (.slice (some ⟨b, off, none⟩) n cap) _ _ HS0.out.2.2).mono ?_
  rintro e w' ⟨rfl, hw⟩
  rw [hw]
  clear hw
  have HT1 := hide (DS1.start HS0.out #[.int .i64 0, .int .i64 0, .slice none 0 0] 36)
  have hF : w.heap.size + 1 < W0.heap.size := HS0.out.2.2.lt
  clear HS0
  go_wp2_with fail
  generalize hV : W0.alloc (.cells #[.int .i64 0, .int .i64 0, .slice none 0 0] 36) = X1 at *
  clear hV
  generalize W0.heap.size = F at *
  have ct := tk2 (w.heap.size + 1) (0) n cap b off zs X1 HT1.out.1.2.2 hm2 (by omega) hcap HN.out (HA.out.below HT1.out.1.1 (Nat.le_refl _)) hbne
  rw [HY0.out] at ct
  have C := hide ct
  clear ct
  refine C.out.mono ?_
  rintro e X2 ⟨rfl, hc, hg⟩
  have HT2 : Hid (DS1 w X2 #[.int .i64 0, .int .i64 0, .slice none 0 0] 36 (.slice (some ⟨b, off, none⟩) n cap) (2) .nilIface F #[.int .i64 0, .int .i64 0, .slice none 0 0] 36) := hide (HT1.out.moved hg hc)
  clear C hc hg HT1
  have k0 := HT2.out.2.1.cell 0 _ rfl
  have fz := HT2.out.2.1.frozen
  have HT3 : Hid (DS1 w (X2.setCell ⟨F, 0, none⟩ (.int .i64 y0)) #[.int .i64 0, .int .i64 0, .slice none 0 0] 36 (.slice (some ⟨b, off, none⟩) n cap) (2) .nilIface F #[.int .i64 y0, .int .i64 0, .slice none 0 0] 36) := hide (HT2.out.set 0 (.int .i64 y0))
  go_wp2_with fail
  generalize X2.setCell ⟨F, 0, none⟩ (.int .i64 y0) = X3 at *
  clear k0 fz HT2
  have ct := tk2 (w.heap.size + 1) (2) n cap b off zs X3 HT3.out.1.2.2 hm2 (by omega) hcap HN.out (HA.out.below HT3.out.1.1 (Nat.le_refl _)) hbne
  rw [HY1.out] at ct
  have C := hide ct
  clear ct
  refine C.out.mono ?_
  rintro e X4 ⟨rfl, hc, hg⟩
  have HT4 : Hid (DS1 w X4 #[.int .i64 0, .int .i64 0, .slice none 0 0] 36 (.slice (some ⟨b, off, none⟩) n cap) (4) .nilIface F #[.int .i64 y0, .int .i64 0, .slice none 0 0] 36) := hide (HT3.out.moved hg hc)
  clear C hc hg HT3
  have k0 := HT4.out.2.1.cell 1 _ rfl
  have fz := HT4.out.2.1.frozen
  have HT5 : Hid (DS1 w (X4.setCell ⟨F, 1, none⟩ (.int .i64 y1)) #[.int .i64 0, .int .i64 0, .slice none 0 0] 36 (.slice (some ⟨b, off, none⟩) n cap) (4) .nilIface F #[.int .i64 y0, .int .i64 y1, .slice none 0 0] 36) := hide (HT4.out.set 1 (.int .i64 y1))
  go_wp2_with fail
  generalize X4.setCell ⟨F, 1, none⟩ (.int .i64 y1) = X5 at *
  clear k0 fz HT4
  have ct := tk2 (w.heap.size + 1) (4) n cap b off zs X5 HT5.out.1.2.2 hm2 (by omega) hcap HN.out (HA.out.below HT5.out.1.1 (Nat.le_refl _)) hbne
  rw [HY2.out] at ct
  have C := hide ct
  clear ct
  refine C.out.mono ?_
  rintro e X6 ⟨rfl, hc, hg⟩
  have HT6 : Hid (DS1 w X6 #[.int .i64 0, .int .i64 0, .slice none 0 0] 36 (.slice (some ⟨b, off, none⟩) n cap) (6) .nilIface F #[.int .i64 y0, .int .i64 y1, .slice none 0 0] 36) := hide (HT5.out.moved hg hc)
  clear C hc hg HT5
  go_wp2_with fail
  refine (demand_no (w.heap.size + 1) 6 (.slice (some ⟨b, off, none⟩) n cap) _ _ HT6.out.1.2.2).mono ?_
  rintro e X7 ⟨rfl, hc, hg⟩
  have HT7 := hide (HT6.out.moved hg hc)
  clear hc hg HT6
  go_wp2_with fail
  refine (take_err (w.heap.size + 1) 6 n cap _ 5 2 _ HT7.out.1.2.2 (by omega) (by omega) (by omega) (by omega)).mono ?_
  rintro e w' ⟨rfl, mm, rfl⟩
  have HT8 : Hid (DS1 w (X7.drewN mm) #[.int .i64 0, .int .i64 0, .slice none 0 0] 36 (.slice (some ⟨b, off, none⟩) n cap) (6) (wErr 5) F #[.int .i64 y0, .int .i64 y1, .slice none 0 0] 36) := hide (HT7.out.drewN mm)
  generalize X7.drewN mm = X8 at *
  clear HT7
  go_wp2_with fail
  refine (demand_err (w.heap.size + 1) 6 (.slice (some ⟨b, off, none⟩) n cap) 5 _ _ _ HT8.out.1.2.2).mono ?_
  rintro e w' ⟨rfl, hw⟩
  rw [hw]
  clear hw
  go_wp2_with fail
  refine (left_walk (w.heap.size + 1) 6 n cap _ _ _ HT8.out.1.2.2 (by omega) (by omega)).mono ?_
  rintro e w' ⟨rfl, mm, rfl⟩
  have HT9 : Hid (DS1 w (X8.drewN mm) #[.int .i64 0, .int .i64 0, .slice none 0 0] 36 (.slice (some ⟨b, off, none⟩) n cap) (6) (wErr 5) F #[.int .i64 y0, .int .i64 y1, .slice none 0 0] 36) := hide (HT8.out.drewN mm)
  generalize X8.drewN mm = X9 at *
  clear HT8
  go_wp2_with fail
  have C := hide (takeBytes_err (w.heap.size + 1) 6 n cap _ 5 ((n : Int) - 6) X9 HT9.out.1.2.2 (by omega) (by omega) (by omega) (by omega))
  
  refine C.out.mono ?_
  rintro e X10 ⟨rfl, hb⟩
  have HT10 := hide (HT9.out.next hb)
  clear C hb HT9
  generalize X9.heap.size = XB at *
  have k0 := HT10.out.2.1.cell 2 _ rfl
  have fz := HT10.out.2.1.frozen
  have HT11 : Hid (DS1 w (X10.setCell ⟨F, 2, none⟩ (.slice (some ⟨XB, 0, none⟩) 0 0)) #[.int .i64 0, .int .i64 0, .slice none 0 0] 36 (.slice (some ⟨b, off, none⟩) n cap) (6) (wErr 5) F #[.int .i64 y0, .int .i64 y1, .slice (some ⟨XB, 0, none⟩) 0 0] 36) := hide (HT10.out.set 2 (.slice (some ⟨XB, 0, none⟩) 0 0))
  go_wp2_with fail
  generalize X10.setCell ⟨F, 2, none⟩ (.slice (some ⟨XB, 0, none⟩) 0 0) = X11 at *
  clear k0 fz HT10
  have HTD := hide (HT11.out.drew)
  have HE7 := hide (HE.out.below HTD.out.1.1 (Nat.le_refl _))
  clear HE
  have CA := hide (ansDatagram_err (y0) (y1) (some ⟨XB, 0, none⟩) 0 0 5 (by decide) X11.drew HE7.out)
  have HK : Hid (X11.drew.cell? ⟨F, 0, none⟩ = some (.int .i64 y0) ∧ X11.drew.cell? ⟨F, 1, none⟩ = some (.int .i64 y1) ∧ X11.drew.cell? ⟨F, 2, none⟩ = some (.slice (some ⟨XB, 0, none⟩) 0 0) ∧ X11.drew.cell? ⟨w.heap.size + 1, 2, none⟩ = some (wErr 5)) := hide ⟨HTD.out.2.1.cell 0 _ rfl, HTD.out.2.1.cell 1 _ rfl, HTD.out.2.1.cell 2 _ rfl, HTD.out.1.2.2.cells.2.2.1⟩
  have hRF : w.heap.size ≠ F := by omega
  have hRC : w.heap.size ≠ w.heap.size + 1 := by omega
  clear HT11 HE7
  go_region_held3 (fun w' => w'.cell? ⟨F, 0, none⟩ = some (.int .i64 y0) ∧ w'.cell? ⟨F, 1, none⟩ = some (.int .i64 y1) ∧ w'.cell? ⟨F, 2, none⟩ = some (.slice (some ⟨XB, 0, none⟩) 0 0) ∧ w'.cell? ⟨w.heap.size + 1, 2, none⟩ = some (wErr 5)) (first | with_reducible assumption | with_reducible exact HK.out | exact ⟨far3 hRF hk9.1, far3 hRF hk9.2.1, far3 hRF hk9.2.2.1, far3 hRC hk9.2.2.2⟩)
    ((go_at_call 55; refine CA.out.mono ?_; rintro e w8 ⟨rfl, hb8⟩; have hk9 : w8.cell? ⟨F, 0, none⟩ = some (.int .i64 y0) ∧ w8.cell? ⟨F, 1, none⟩ = some (.int .i64 y1) ∧ w8.cell? ⟨F, 2, none⟩ = some (.slice (some ⟨XB, 0, none⟩) 0 0) ∧ w8.cell? ⟨w.heap.size + 1, 2, none⟩ = some (wErr 5) := ⟨(HTD.out.next hb8).2.1.cell 0 _ rfl, (HTD.out.next hb8).2.1.cell 1 _ rfl, (HTD.out.next hb8).2.1.cell 2 _ rfl, (HTD.out.next hb8).1.2.2.cells.2.2.1⟩; have d0 := (HTD.out.next hb8).1.2.1.cell 0 _ rfl; have d1 := (HTD.out.next hb8).1.2.1.cell 1 _ rfl; have d2 := (HTD.out.next hb8).1.2.1.cell 2 _ rfl; have fz := (HTD.out.next hb8).1.2.1.frozen))
  all_goals
    have HT9 := hide (HTD.out.next hb8)
    clear hb8 HTD CA HK hk9
    go_wp2_with fail
    exact bodyPost_ret (v := .tuple #[.agg #[.int .i64 0, .int .i64 0, .slice none 0 0], .int .i64 5]) (by simp [results, Tryd.results19, go_sem, d0, d1, d2]) rfl ⟨rfl, (((HT9.out.1.1.setCell (p := ⟨w.heap.size, 0, none⟩) (Nat.le_refl _) _).setCell (p := ⟨w.heap.size, 1, none⟩) (Nat.le_refl _) _).setCell (p := ⟨w.heap.size, 2, none⟩) (Nat.le_refl _) _)⟩
set_option maxHeartbeats 8000000 in
theorem implDecU_sum (b off n cap : Nat) (zs : List Int) (w : World) (hn : zs.length = n) (ha : Arr w (some ⟨b, off, none⟩) zs) (hm : n ≤ 1048576) (hcap : n ≤ cap) (h8 : 8 ≤ n) (he : ErrT w) (s d : Int) (ha0 : adrB s = true) (ha1 : adrB d = true) (y0 y1 y3 FS : Int) (hy0 : tnum ((zs.drop 0).take 2) = y0) (hy1 : tnum ((zs.drop 2).take 2) = y1) (hy2 : tnum ((zs.drop 4).take 2) = (n : Int)) (hy3 : tnum ((zs.drop 6).take 2) = y3) (h3 : ¬ y3 = 0) (hfs : fsum s d 17 zs = FS) (hf0 : ¬ FS = 0) :
    Calls Tryd.prog 19 #[.slice (some ⟨b, off, none⟩) n cap, .int .i64 s, .int .i64 d] w fun e w' => e = .returned (.tuple #[.agg #[.int .i64 0, .int .i64 0, .slice none 0 0], .int .i64 3]) ∧ Below w.heap.size w w' := by
  have HS0 := hide (DS0.start w #[.int .i64 0, .int .i64 0, .slice none 0 0] 36 (.slice (some ⟨b, off, none⟩) n cap))
  have HA := hide ha
  have HN := hide hn
  have hm2 : n ≤ 1048576 := by omega
  obtain ⟨_, _, e0, hbl, _⟩ := ha.2 0 (by omega)
  cases e0
  have hbne : b ≠ w.heap.size + 1 := by omega
  have HE := hide he
  clear he
  have hd1 : decide ((8 : Int) ≤ (n : Int)) = true := decide_eq_true (by omega)
  have hd3 : (y3 == 0) = false := by simpa using h3
  have hd4 : (FS == 0) = false := by simpa using hf0
  have HFS := hide hfs
  have HY0 := hide hy0
  have HY1 := hide hy1
  have HY2 := hide hy2
  have HY3 := hide hy3
  clear hy0 hy1 hy2 hy3
  clear h3 hf0 hfs
  clear ha hn
  go_enter Tryd.func19, Tryd.ntmps19
  go_wp2_with (first | (go_at_call 50; refine (isAddr_walk _ _).mono ?_; rintro e w' ⟨rfl, rfl⟩))
  generalize hW : (w.alloc (.cells #[.int .i64 0, .int .i64 0, .slice none 0 0] 36)).alloc (.cells #[.slice (some ⟨b, off, none⟩) n cap, .int .i64 0, .nilIface] 69) = W0 at *
  clear hW
  refine (demand_yes (w.heap.size + 1) 0 (.slice (some ⟨b, off, none⟩) n cap) _ _ HS0.out.2.2).mono ?_
  rintro e w' ⟨rfl, hw⟩
  rw [hw]
  clear hw
  go_wp2_with fail
  refine (demand_yes (w.heap.size + 1) 0 (.slice (some ⟨b, off, none⟩) n cap) _ _ HS0.out.2.2).mono ?_
  rintro e w' ⟨rfl, hw⟩
  rw [hw]
  clear hw
  have HT1 := hide (DS1.start HS0.out #[.int .i64 0, .int .i64 0, .slice none 0 0] 36)
  have hF : w.heap.size + 1 < W0.heap.size := HS0.out.2.2.lt
  clear HS0
  go_wp2_with fail
  generalize hV : W0.alloc (.cells #[.int .i64 0, .int .i64 0, .slice none 0 0] 36) = X1 at *
  clear hV
  generalize W0.heap.size = F at *
  have ct := tk2 (w.heap.size + 1) (0) n cap b off zs X1 HT1.out.1.2.2 hm2 (by omega) hcap HN.out (HA.out.below HT1.out.1.1 (Nat.le_refl _)) hbne
  rw [HY0.out] at ct
  have C := hide ct
  clear ct
  refine C.out.mono ?_
  rintro e X2 ⟨rfl, hc, hg⟩
  have HT2 : Hid (DS1 w X2 #[.int .i64 0, .int .i64 0, .slice none 0 0] 36 (.slice (some ⟨b, off, none⟩) n cap) (2) .nilIface F #[.int .i64 0, .int .i64 0, .slice none 0 0] 36) := hide (HT1.out.moved hg hc)
  clear C hc hg HT1
  have k0 := HT2.out.2.1.cell 0 _ rfl
  have fz := HT2.out.2.1.frozen
  have HT3 : Hid (DS1 w (X2.setCell ⟨F, 0, none⟩ (.int .i64 y0)) #[.int .i64 0, .int .i64 0, .slice none 0 0] 36 (.slice (some ⟨b, off, none⟩) n cap) (2) .nilIface F #[.int .i64 y0, .int .i64 0, .slice none 0 0] 36) := hide (HT2.out.set 0 (.int .i64 y0))
  go_wp2_with fail
  generalize X2.setCell ⟨F, 0, none⟩ (.int .i64 y0) = X3 at *
  clear k0 fz HT2
  have ct := tk2 (w.heap.size + 1) (2) n cap b off zs X3 HT3.out.1.2.2 hm2 (by omega) hcap HN.out (HA.out.below HT3.out.1.1 (Nat.le_refl _)) hbne
  rw [HY1.out] at ct
  have C := hide ct
  clear ct
  refine C.out.mono ?_
  rintro e X4 ⟨rfl, hc, hg⟩
  have HT4 : Hid (DS1 w X4 #[.int .i64 0, .int .i64 0, .slice none 0 0] 36 (.slice (some ⟨b, off, none⟩) n cap) (4) .nilIface F #[.int .i64 y0, .int .i64 0, .slice none 0 0] 36) := hide (HT3.out.moved hg hc)
  clear C hc hg HT3
  have k0 := HT4.out.2.1.cell 1 _ rfl
  have fz := HT4.out.2.1.frozen
  have HT5 : Hid (DS1 w (X4.setCell ⟨F, 1, none⟩ (.int .i64 y1)) #[.int .i64 0, .int .i64 0, .slice none 0 0] 36 (.slice (some ⟨b, off, none⟩) n cap) (4) .nilIface F #[.int .i64 y0, .int .i64 y1, .slice none 0 0] 36) := hide (HT4.out.set 1 (.int .i64 y1))
  go_wp2_with fail
  generalize X4.setCell ⟨F, 1, none⟩ (.int .i64 y1) = X5 at *
  clear k0 fz HT4
  have ct := tk2 (w.heap.size + 1) (4) n cap b off zs X5 HT5.out.1.2.2 hm2 (by omega) hcap HN.out (HA.out.below HT5.out.1.1 (Nat.le_refl _)) hbne
  rw [HY2.out] at ct
  have C := hide ct
  clear ct
  refine C.out.mono ?_
  rintro e X6 ⟨rfl, hc, hg⟩
  have HT6 : Hid (DS1 w X6 #[.int .i64 0, .int .i64 0, .slice none 0 0] 36 (.slice (some ⟨b, off, none⟩) n cap) (6) .nilIface F #[.int .i64 y0, .int .i64 y1, .slice none 0 0] 36) := hide (HT5.out.moved hg hc)
  clear C hc hg HT5
  go_wp2_with fail
  refine (demand_yes (w.heap.size + 1) 6 (.slice (some ⟨b, off, none⟩) n cap) _ _ HT6.out.1.2.2).mono ?_
  rintro e w' ⟨rfl, hw⟩
  rw [hw]
  clear hw
  go_wp2_with fail
  have ct := tk2 (w.heap.size + 1) (6) n cap b off zs X6 HT6.out.1.2.2 hm2 (by omega) hcap HN.out (HA.out.below HT6.out.1.1 (Nat.le_refl _)) hbne
  rw [HY3.out] at ct
  have C := hide ct
  clear ct
  refine C.out.mono ?_
  rintro e X7 ⟨rfl, hc, hg⟩
  have HT7 : Hid (DS1 w X7 #[.int .i64 0, .int .i64 0, .slice none 0 0] 36 (.slice (some ⟨b, off, none⟩) n cap) (8) .nilIface F #[.int .i64 y0, .int .i64 y1, .slice none 0 0] 36) := hide (HT6.out.moved hg hc)
  clear C hc hg HT6
  go_wp2_with fail
  have CC := hide (sumFH_walk (some ⟨b, off, none⟩) n cap s d 17 zs X7 HN.out (HA.out.below HT7.out.1.1 (Nat.le_refl _)) hm2)
  rw [HFS.out] at CC
  refine CC.out.mono ?_
  rintro e X8 ⟨rfl, hb⟩
  have HT8 := hide (HT7.out.next hb)
  clear CC hb HT7
  go_wp2_with fail
  refine (demand_no (w.heap.size + 1) 8 (.slice (some ⟨b, off, none⟩) n cap) _ _ HT8.out.1.2.2).mono ?_
  rintro e X9 ⟨rfl, hc, hg⟩
  have HT9 := hide (HT8.out.moved hg hc)
  clear hc hg HT8
  go_wp2_with fail
  refine (left_walk (w.heap.size + 1) 8 n cap _ _ _ HT9.out.1.2.2 (by omega) (by omega)).mono ?_
  rintro e w' ⟨rfl, mm, rfl⟩
  have HT10 : Hid (DS1 w (X9.drewN mm) #[.int .i64 0, .int .i64 0, .slice none 0 0] 36 (.slice (some ⟨b, off, none⟩) n cap) (8) (wErr 3) F #[.int .i64 y0, .int .i64 y1, .slice none 0 0] 36) := hide (HT9.out.drewN mm)
  generalize X9.drewN mm = X10 at *
  clear HT9
  go_wp2_with fail
  have C := hide (takeBytes_err (w.heap.size + 1) 8 n cap _ 3 ((n : Int) - 8) X10 HT10.out.1.2.2 (by omega) (by omega) (by omega) (by omega))
  
  refine C.out.mono ?_
  rintro e X11 ⟨rfl, hb⟩
  have HT11 := hide (HT10.out.next hb)
  clear C hb HT10
  generalize X10.heap.size = XB at *
  have k0 := HT11.out.2.1.cell 2 _ rfl
  have fz := HT11.out.2.1.frozen
  have HT12 : Hid (DS1 w (X11.setCell ⟨F, 2, none⟩ (.slice (some ⟨XB, 0, none⟩) 0 0)) #[.int .i64 0, .int .i64 0, .slice none 0 0] 36 (.slice (some ⟨b, off, none⟩) n cap) (8) (wErr 3) F #[.int .i64 y0, .int .i64 y1, .slice (some ⟨XB, 0, none⟩) 0 0] 36) := hide (HT11.out.set 2 (.slice (some ⟨XB, 0, none⟩) 0 0))
  go_wp2_with fail
  generalize X11.setCell ⟨F, 2, none⟩ (.slice (some ⟨XB, 0, none⟩) 0 0) = X12 at *
  clear k0 fz HT11
  have HTD := hide (HT12.out.drew)
  have HE7 := hide (HE.out.below HTD.out.1.1 (Nat.le_refl _))
  clear HE
  have CA := hide (ansDatagram_err (y0) (y1) (some ⟨XB, 0, none⟩) 0 0 3 (by decide) X12.drew HE7.out)
  have HK : Hid (X12.drew.cell? ⟨F, 0, none⟩ = some (.int .i64 y0) ∧ X12.drew.cell? ⟨F, 1, none⟩ = some (.int .i64 y1) ∧ X12.drew.cell? ⟨F, 2, none⟩ = some (.slice (some ⟨XB, 0, none⟩) 0 0) ∧ X12.drew.cell? ⟨w.heap.size + 1, 2, none⟩ = some (wErr 3)) := hide ⟨HTD.out.2.1.cell 0 _ rfl, HTD.out.2.1.cell 1 _ rfl, HTD.out.2.1.cell 2 _ rfl, HTD.out.1.2.2.cells.2.2.1⟩
  have hRF : w.heap.size ≠ F := by omega
  have hRC : w.heap.size ≠ w.heap.size + 1 := by omega
  clear HT12 HE7
  go_region_held3 (fun w' => w'.cell? ⟨F, 0, none⟩ = some (.int .i64 y0) ∧ w'.cell? ⟨F, 1, none⟩ = some (.int .i64 y1) ∧ w'.cell? ⟨F, 2, none⟩ = some (.slice (some ⟨XB, 0, none⟩) 0 0) ∧ w'.cell? ⟨w.heap.size + 1, 2, none⟩ = some (wErr 3)) (first | with_reducible assumption | with_reducible exact HK.out | exact ⟨far3 hRF hk9.1, far3 hRF hk9.2.1, far3 hRF hk9.2.2.1, far3 hRC hk9.2.2.2⟩)
    ((go_at_call 55; refine CA.out.mono ?_; rintro e w8 ⟨rfl, hb8⟩; have hk9 : w8.cell? ⟨F, 0, none⟩ = some (.int .i64 y0) ∧ w8.cell? ⟨F, 1, none⟩ = some (.int .i64 y1) ∧ w8.cell? ⟨F, 2, none⟩ = some (.slice (some ⟨XB, 0, none⟩) 0 0) ∧ w8.cell? ⟨w.heap.size + 1, 2, none⟩ = some (wErr 3) := ⟨(HTD.out.next hb8).2.1.cell 0 _ rfl, (HTD.out.next hb8).2.1.cell 1 _ rfl, (HTD.out.next hb8).2.1.cell 2 _ rfl, (HTD.out.next hb8).1.2.2.cells.2.2.1⟩; have d0 := (HTD.out.next hb8).1.2.1.cell 0 _ rfl; have d1 := (HTD.out.next hb8).1.2.1.cell 1 _ rfl; have d2 := (HTD.out.next hb8).1.2.1.cell 2 _ rfl; have fz := (HTD.out.next hb8).1.2.1.frozen))
  all_goals
    have HT9 := hide (HTD.out.next hb8)
    clear hb8 HTD CA HK hk9
    go_wp2_with fail
    exact bodyPost_ret (v := .tuple #[.agg #[.int .i64 0, .int .i64 0, .slice none 0 0], .int .i64 3]) (by simp [results, Tryd.results19, go_sem, d0, d1, d2]) rfl ⟨rfl, (((HT9.out.1.1.setCell (p := ⟨w.heap.size, 0, none⟩) (Nat.le_refl _) _).setCell (p := ⟨w.heap.size, 1, none⟩) (Nat.le_refl _) _).setCell (p := ⟨w.heap.size, 2, none⟩) (Nat.le_refl _) _)⟩
set_option maxHeartbeats 8000000 in
theorem implDecU_ok2 (b off n cap : Nat) (zs : List Int) (w : World) (hn : zs.length = n) (ha : Arr w (some ⟨b, off, none⟩) zs) (hm : n ≤ 1048576) (hcap : n ≤ cap) (h8 : 8 ≤ n) (s d : Int) (ha0 : adrB s = true) (ha1 : adrB d = true) (y0 y1 y3 : Int) (hy0 : tnum ((zs.drop 0).take 2) = y0) (hy1 : tnum ((zs.drop 2).take 2) = y1) (hy2 : tnum ((zs.drop 4).take 2) = (n : Int)) (hy3 : tnum ((zs.drop 6).take 2) = y3) (L : List Int) (hyL : (zs.drop 8).take (n - 8) = L) (h3 : ¬ y3 = 0) (hfs : fsum s d 17 zs = 0) :
    Calls Tryd.prog 19 #[.slice (some ⟨b, off, none⟩) n cap, .int .i64 s, .int .i64 d] w fun e w' => ∃ v0 : Value, e = .returned (.tuple #[.agg #[.int .i64 y0, .int .i64 y1, v0], .int .i64 0]) ∧ OwnB w' w.heap.size v0 L ∧ Below w.heap.size w w' := by
  have HS0 := hide (DS0.start w #[.int .i64 0, .int .i64 0, .slice none 0 0] 36 (.slice (some ⟨b, off, none⟩) n cap))
  have HA := hide ha
  have HN := hide hn
  have hm2 : n ≤ 1048576 := by omega
  obtain ⟨_, _, e0, hbl, _⟩ := ha.2 0 (by omega)
  cases e0
  have hbne : b ≠ w.heap.size + 1 := by omega
  have hd1 : decide ((8 : Int) ≤ (n : Int)) = true := decide_eq_true (by omega)
  have hd3 : (y3 == 0) = false := by simpa using h3
  have HFS := hide hfs
  have HYL := hide hyL
  have HY0 := hide hy0
  have HY1 := hide hy1
  have HY2 := hide hy2
  have HY3 := hide hy3
  clear hy0 hy1 hy2 hy3
  clear h3 hfs hyL
  clear ha hn
  go_enter Tryd.func19, Tryd.ntmps19
  go_wp2_with (first | (go_at_call 50; refine (isAddr_walk _ _).mono ?_; rintro e w' ⟨rfl, rfl⟩))
  generalize hW : (w.alloc (.cells #[.int .i64 0, .int .i64 0, .slice none 0 0] 36)).alloc (.cells #[.slice (some ⟨b, off, none⟩) n cap, .int .i64 0, .nilIface] 69) = W0 at *
  clear hW
  refine (demand_yes (w.heap.size + 1) 0 (.slice (some ⟨b, off, none⟩) n cap) _ _ HS0.out.2.2).mono ?_
  rintro e w' ⟨rfl, hw⟩
  rw [hw]
  clear hw
  go_wp2_with fail
  refine (demand_yes (w.heap.size + 1) 0 (.slice (some ⟨b, off, none⟩) n cap) _ _ HS0.out.2.2).mono ?_
  rintro e w' ⟨rfl, hw⟩
  rw [hw]
  clear hw
  have HT1 := hide (DS1.start HS0.out #[.int .i64 0, .int .i64 0, .slice none 0 0] 36)
  have hF : w.heap.size + 1 < W0.heap.size := HS0.out.2.2.lt
  clear HS0
  go_wp2_with fail
  generalize hV : W0.alloc (.cells #[.int .i64 0, .int .i64 0, .slice none 0 0] 36) = X1 at *
  clear hV
  generalize W0.heap.size = F at *
  have ct := tk2 (w.heap.size + 1) (0) n cap b off zs X1 HT1.out.1.2.2 hm2 (by omega) hcap HN.out (HA.out.below HT1.out.1.1 (Nat.le_refl _)) hbne
  rw [HY0.out] at ct
  have C := hide ct
  clear ct
  refine C.out.mono ?_
  rintro e X2 ⟨rfl, hc, hg⟩
  have HT2 : Hid (DS1 w X2 #[.int .i64 0, .int .i64 0, .slice none 0 0] 36 (.slice (some ⟨b, off, none⟩) n cap) (2) .nilIface F #[.int .i64 0, .int .i64 0, .slice none 0 0] 36) := hide (HT1.out.moved hg hc)
  clear C hc hg HT1
  have k0 := HT2.out.2.1.cell 0 _ rfl
  have fz := HT2.out.2.1.frozen
  have HT3 : Hid (DS1 w (X2.setCell ⟨F, 0, none⟩ (.int .i64 y0)) #[.int .i64 0, .int .i64 0, .slice none 0 0] 36 (.slice (some ⟨b, off, none⟩) n cap) (2) .nilIface F #[.int .i64 y0, .int .i64 0, .slice none 0 0] 36) := hide (HT2.out.set 0 (.int .i64 y0))
  go_wp2_with fail
  generalize X2.setCell ⟨F, 0, none⟩ (.int .i64 y0) = X3 at *
  clear k0 fz HT2
  have ct := tk2 (w.heap.size + 1) (2) n cap b off zs X3 HT3.out.1.2.2 hm2 (by omega) hcap HN.out (HA.out.below HT3.out.1.1 (Nat.le_refl _)) hbne
  rw [HY1.out] at ct
  have C := hide ct
  clear ct
  refine C.out.mono ?_
  rintro e X4 ⟨rfl, hc, hg⟩
  have HT4 : Hid (DS1 w X4 #[.int .i64 0, .int .i64 0, .slice none 0 0] 36 (.slice (some ⟨b, off, none⟩) n cap) (4) .nilIface F #[.int .i64 y0, .int .i64 0, .slice none 0 0] 36) := hide (HT3.out.moved hg hc)
  clear C hc hg HT3
  have k0 := HT4.out.2.1.cell 1 _ rfl
  have fz := HT4.out.2.1.frozen
  have HT5 : Hid (DS1 w (X4.setCell ⟨F, 1, none⟩ (.int .i64 y1)) #[.int .i64 0, .int .i64 0, .slice none 0 0] 36 (.slice (some ⟨b, off, none⟩) n cap) (4) .nilIface F #[.int .i64 y0, .int .i64 y1, .slice none 0 0] 36) := hide (HT4.out.set 1 (.int .i64 y1))
  go_wp2_with fail
  generalize X4.setCell ⟨F, 1, none⟩ (.int .i64 y1) = X5 at *
  clear k0 fz HT4
  have ct := tk2 (w.heap.size + 1) (4) n cap b off zs X5 HT5.out.1.2.2 hm2 (by omega) hcap HN.out (HA.out.below HT5.out.1.1 (Nat.le_refl _)) hbne
  rw [HY2.out] at ct
  have C := hide ct
  clear ct
  refine C.out.mono ?_
  rintro e X6 ⟨rfl, hc, hg⟩
  have HT6 : Hid (DS1 w X6 #[.int .i64 0, .int .i64 0, .slice none 0 0] 36 (.slice (some ⟨b, off, none⟩) n cap) (6) .nilIface F #[.int .i64 y0, .int .i64 y1, .slice none 0 0] 36) := hide (HT5.out.moved hg hc)
  clear C hc hg HT5
  go_wp2_with fail
  refine (demand_yes (w.heap.size + 1) 6 (.slice (some ⟨b, off, none⟩) n cap) _ _ HT6.out.1.2.2).mono ?_
  rintro e w' ⟨rfl, hw⟩
  rw [hw]
  clear hw
  go_wp2_with fail
  have ct := tk2 (w.heap.size + 1) (6) n cap b off zs X6 HT6.out.1.2.2 hm2 (by omega) hcap HN.out (HA.out.below HT6.out.1.1 (Nat.le_refl _)) hbne
  rw [HY3.out] at ct
  have C := hide ct
  clear ct
  refine C.out.mono ?_
  rintro e X7 ⟨rfl, hc, hg⟩
  have HT7 : Hid (DS1 w X7 #[.int .i64 0, .int .i64 0, .slice none 0 0] 36 (.slice (some ⟨b, off, none⟩) n cap) (8) .nilIface F #[.int .i64 y0, .int .i64 y1, .slice none 0 0] 36) := hide (HT6.out.moved hg hc)
  clear C hc hg HT6
  go_wp2_with fail
  have CC := hide (sumFH_walk (some ⟨b, off, none⟩) n cap s d 17 zs X7 HN.out (HA.out.below HT7.out.1.1 (Nat.le_refl _)) hm2)
  rw [HFS.out] at CC
  refine CC.out.mono ?_
  rintro e X8 ⟨rfl, hb⟩
  have HT8 := hide (HT7.out.next hb)
  clear CC hb HT7
  go_wp2_with fail
  refine (demand_yes (w.heap.size + 1) 8 (.slice (some ⟨b, off, none⟩) n cap) _ _ HT8.out.1.2.2).mono ?_
  rintro e w' ⟨rfl, hw⟩
  rw [hw]
  clear hw
  go_wp2_with fail
  refine (left_walk (w.heap.size + 1) 8 n cap _ _ _ HT8.out.1.2.2 (by omega) (by omega)).mono ?_
  rintro e w' ⟨rfl, mm, rfl⟩
  have HT9 : Hid (DS1 w (X8.drewN mm) #[.int .i64 0, .int .i64 0, .slice none 0 0] 36 (.slice (some ⟨b, off, none⟩) n cap) (8) .nilIface F #[.int .i64 y0, .int .i64 y1, .slice none 0 0] 36) := hide (HT8.out.drewN mm)
  generalize X8.drewN mm = X9 at *
  clear HT8
  go_wp2_with fail
  have hFl := HT9.out.2.1.lt
  have C := hide (takeBytes_any (w.heap.size + 1) (8) n cap b off (n - 8) zs X9 HT9.out.1.2.2 hm2 (by omega) hcap HN.out (HA.out.below HT9.out.1.1 (Nat.le_refl _)) hbne)
  rw [show ((n : Int) - 8) = ((n - 8 : Nat) : Int) by omega]
  refine C.out.mono ?_
  rintro e X10 ⟨vb, rfl, hO, hc, hg⟩
  have HT10 : Hid (DS1 w X10 #[.int .i64 0, .int .i64 0, .slice none 0 0] 36 (.slice (some ⟨b, off, none⟩) n cap) (8 + (n - 8)) .nilIface F #[.int .i64 y0, .int .i64 y1, .slice none 0 0] 36) := hide (HT9.out.moved hg hc)
  rw [HYL.out] at hO
  have HO := hide (hO.mono (show F + 1 ≤ X9.heap.size from hFl))
  obtain ⟨ab, lb, cb, eb⟩ : ∃ (x : Option Addr) (y z : Nat), vb = .slice x y z := by obtain ⟨x, z, e, _⟩ := own_slice HO.out; exact ⟨x, _, z, e⟩
  subst eb
  clear C hc hg hO hFl HT9
  have k0 := HT10.out.2.1.cell 2 _ rfl
  have fz := HT10.out.2.1.frozen
  have HT11 : Hid (DS1 w (X10.setCell ⟨F, 2, none⟩ (.slice ab lb cb)) #[.int .i64 0, .int .i64 0, .slice none 0 0] 36 (.slice (some ⟨b, off, none⟩) n cap) (8 + (n - 8)) .nilIface F #[.int .i64 y0, .int .i64 y1, .slice ab lb cb] 36) := hide (HT10.out.set 2 (.slice ab lb cb))
  have HO2 := hide ((HO.out.setBelow (a := ⟨F, 2, none⟩) (Nat.lt_succ_self _) (.slice ab lb cb)).mono (show w.heap.size + 1 ≤ F + 1 by omega))
  go_wp2_with fail
  generalize X10.setCell ⟨F, 2, none⟩ (.slice ab lb cb) = X11 at *
  clear k0 fz HT10 HO
  have HTD := hide (HT11.out.drew)
  have HOD := hide (HO2.out.drew)
  have CA := hide (ansDatagram_nil (y0) (y1) ab lb cb X11.drew)
  have HK : Hid (X11.drew.cell? ⟨F, 0, none⟩ = some (.int .i64 y0) ∧ X11.drew.cell? ⟨F, 1, none⟩ = some (.int .i64 y1) ∧ X11.drew.cell? ⟨F, 2, none⟩ = some (.slice ab lb cb) ∧ X11.drew.cell? ⟨w.heap.size + 1, 2, none⟩ = some .nilIface) := hide ⟨HTD.out.2.1.cell 0 _ rfl, HTD.out.2.1.cell 1 _ rfl, HTD.out.2.1.cell 2 _ rfl, HTD.out.1.2.2.cells.2.2.1⟩
  have hRF : w.heap.size ≠ F := by omega
  have hRC : w.heap.size ≠ w.heap.size + 1 := by omega
  clear HT11 HO2
  go_region_held3 (fun w' => w'.cell? ⟨F, 0, none⟩ = some (.int .i64 y0) ∧ w'.cell? ⟨F, 1, none⟩ = some (.int .i64 y1) ∧ w'.cell? ⟨F, 2, none⟩ = some (.slice ab lb cb) ∧ w'.cell? ⟨w.heap.size + 1, 2, none⟩ = some .nilIface) (first | with_reducible assumption | with_reducible exact HK.out | exact ⟨far3 hRF hk9.1, far3 hRF hk9.2.1, far3 hRF hk9.2.2.1, far3 hRC hk9.2.2.2⟩)
    ((go_at_call 55; refine CA.out.mono ?_; rintro e w8 ⟨rfl, hb8⟩; have hk9 : w8.cell? ⟨F, 0, none⟩ = some (.int .i64 y0) ∧ w8.cell? ⟨F, 1, none⟩ = some (.int .i64 y1) ∧ w8.cell? ⟨F, 2, none⟩ = some (.slice ab lb cb) ∧ w8.cell? ⟨w.heap.size + 1, 2, none⟩ = some .nilIface := ⟨(HTD.out.next hb8).2.1.cell 0 _ rfl, (HTD.out.next hb8).2.1.cell 1 _ rfl, (HTD.out.next hb8).2.1.cell 2 _ rfl, (HTD.out.next hb8).1.2.2.cells.2.2.1⟩; have d0 := (HTD.out.next hb8).1.2.1.cell 0 _ rfl; have d1 := (HTD.out.next hb8).1.2.1.cell 1 _ rfl; have d2 := (HTD.out.next hb8).1.2.1.cell 2 _ rfl; have fz := (HTD.out.next hb8).1.2.1.frozen))
  all_goals
    have HT9 := hide (HTD.out.next hb8)
    have HO9 := hide (HOD.out.next hb8)
    clear hb8 HTD CA HK hk9
    go_wp2_with fail
    exact bodyPost_ret (v := .tuple #[.agg #[.int .i64 y0, .int .i64 y1, .slice ab lb cb], .int .i64 0]) (by simp [results, Tryd.results19, go_sem, d0, d1, d2]) rfl ⟨_, rfl, (((HO9.out.setBelow (a := ⟨w.heap.size, 0, none⟩) (Nat.lt_succ_self _) _).setBelow (a := ⟨w.heap.size, 1, none⟩) (Nat.lt_succ_self _) _).setBelow (a := ⟨w.heap.size, 2, none⟩) (Nat.lt_succ_self _) _).mono (Nat.le_succ _), (((HT9.out.1.1.setCell (p := ⟨w.heap.size, 0, none⟩) (Nat.le_refl _) _).setCell (p := ⟨w.heap.size, 1, none⟩) (Nat.le_refl _) _).setCell (p := ⟨w.heap.size, 2, none⟩) (Nat.le_refl _) _)⟩
set_option maxHeartbeats 8000000 in
theorem implDecU_ok1 (b off n cap : Nat) (zs : List Int) (w : World) (hn : zs.length = n) (ha : Arr w (some ⟨b, off, none⟩) zs) (hm : n ≤ 1048576) (hcap : n ≤ cap) (h8 : 8 ≤ n) (s d : Int) (ha0 : adrB s = true) (ha1 : adrB d = true) (y0 y1 : Int) (hy0 : tnum ((zs.drop 0).take 2) = y0) (hy1 : tnum ((zs.drop 2).take 2) = y1) (hy2 : tnum ((zs.drop 4).take 2) = (n : Int)) (hy3 : tnum ((zs.drop 6).take 2) = 0) (L : List Int) (hyL : (zs.drop 8).take (n - 8) = L) :
    Calls Tryd.prog 19 #[.slice (some ⟨b, off, none⟩) n cap, .int .i64 s, .int .i64 d] w fun e w' => ∃ v0 : Value, e = .returned (.tuple #[.agg #[.int .i64 y0, .int .i64 y1, v0], .int .i64 0]) ∧ OwnB w' w.heap.size v0 L ∧ Below w.heap.size w w' := by
  have HS0 := hide (DS0.start w #[.int .i64 0, .int .i64 0, .slice none 0 0] 36 (.slice (some ⟨b, off, none⟩) n cap))
  have HA := hide ha
  have HN := hide hn
  have hm2 : n ≤ 1048576 := by omega
  obtain ⟨_, _, e0, hbl, _⟩ := ha.2 0 (by omega)
  cases e0
  have hbne : b ≠ w.heap.size + 1 := by omega
  have hd1 : decide ((8 : Int) ≤ (n : Int)) = true := decide_eq_true (by omega)
  have HYL := hide hyL
  have HY0 := hide hy0
  have HY1 := hide hy1
  have HY2 := hide hy2
  have HY3 := hide hy3
  clear hy0 hy1 hy2 hy3
  clear hyL
  clear ha hn
  go_enter Tryd.func19, Tryd.ntmps19
  go_wp2_with (first | (go_at_call 50; refine (isAddr_walk _ _).mono ?_; rintro e w' ⟨rfl, rfl⟩))
  generalize hW : (w.alloc (.cells #[.int .i64 0, .int .i64 0, .slice none 0 0] 36)).alloc (.cells #[.slice (some ⟨b, off, none⟩) n cap, .int .i64 0, .nilIface] 69) = W0 at *
  clear hW
  refine (demand_yes (w.heap.size + 1) 0 (.slice (some ⟨b, off, none⟩) n cap) _ _ HS0.out.2.2).mono ?_
  rintro e w' ⟨rfl, hw⟩
  rw [hw]
  clear hw
  go_wp2_with fail
  refine (demand_yes (w.heap.size + 1) 0 (.slice (some ⟨b, off, none⟩) n cap) _ _ HS0.out.2.2).mono ?_
  rintro e w' ⟨rfl, hw⟩
  rw [hw]
  clear hw
  have HT1 := hide (DS1.start HS0.out #[.int .i64 0, .int .i64 0, .slice none 0 0] 36)
  have hF : w.heap.size + 1 < W0.heap.size := HS0.out.2.2.lt
  clear HS0
  go_wp2_with fail
  generalize hV : W0.alloc (.cells #[.int .i64 0, .int .i64 0, .slice none 0 0] 36) = X1 at *
  clear hV
  generalize W0.heap.size = F at *
  have ct := tk2 (w.heap.size + 1) (0) n cap b off zs X1 HT1.out.1.2.2 hm2 (by omega) hcap HN.out (HA.out.below HT1.out.1.1 (Nat.le_refl _)) hbne
  rw [HY0.out] at ct
  have C := hide ct
  clear ct
  refine C.out.mono ?_
  rintro e X2 ⟨rfl, hc, hg⟩
  have HT2 : Hid (DS1 w X2 #[.int .i64 0, .int .i64 0, .slice none 0 0] 36 (.slice (some ⟨b, off, none⟩) n cap) (2) .nilIface F #[.int .i64 0, .int .i64 0, .slice none 0 0] 36) := hide (HT1.out.moved hg hc)
  clear C hc hg HT1
  have k0 := HT2.out.2.1.cell 0 _ rfl
  have fz := HT2.out.2.1.frozen
  have HT3 : Hid (DS1 w (X2.setCell ⟨F, 0, none⟩ (.int .i64 y0)) #[.int .i64 0, .int .i64 0, .slice none 0 0] 36 (.slice (some ⟨b, off, none⟩) n cap) (2) .nilIface F #[.int .i64 y0, .int .i64 0, .slice none 0 0] 36) := hide (HT2.out.set 0 (.int .i64 y0))
  go_wp2_with fail
  generalize X2.setCell ⟨F, 0, none⟩ (.int .i64 y0) = X3 at *
  clear k0 fz HT2
  have ct := tk2 (w.heap.size + 1) (2) n cap b off zs X3 HT3.out.1.2.2 hm2 (by omega) hcap HN.out (HA.out.below HT3.out.1.1 (Nat.le_refl _)) hbne
  rw [HY1.out] at ct
  have C := hide ct
  clear ct
  refine C.out.mono ?_
  rintro e X4 ⟨rfl, hc, hg⟩
  have HT4 : Hid (DS1 w X4 #[.int .i64 0, .int .i64 0, .slice none 0 0] 36 (.slice (some ⟨b, off, none⟩) n cap) (4) .nilIface F #[.int .i64 y0, .int .i64 0, .slice none 0 0] 36) := hide (HT3.out.moved hg hc)
  clear C hc hg HT3
  have k0 := HT4.out.2.1.cell 1 _ rfl
  have fz := HT4.out.2.1.frozen
  have HT5 : Hid (DS1 w (X4.setCell ⟨F, 1, none⟩ (.int .i64 y1)) #[.int .i64 0, .int .i64 0, .slice none 0 0] 36 (.slice (some ⟨b, off, none⟩) n cap) (4) .nilIface F #[.int .i64 y0, .int .i64 y1, .slice none 0 0] 36) := hide (HT4.out.set 1 (.int .i64 y1))
  go_wp2_with fail
  generalize X4.setCell ⟨F, 1, none⟩ (.int .i64 y1) = X5 at *
  clear k0 fz HT4
  have ct := tk2 (w.heap.size + 1) (4) n cap b off zs X5 HT5.out.1.2.2 hm2 (by omega) hcap HN.out (HA.out.below HT5.out.1.1 (Nat.le_refl _)) hbne
  rw [HY2.out] at ct
  have C := hide ct
  clear ct
  refine C.out.mono ?_
  rintro e X6 ⟨rfl, hc, hg⟩
  have HT6 : Hid (DS1 w X6 #[.int .i64 0, .int .i64 0, .slice none 0 0] 36 (.slice (some ⟨b, off, none⟩) n cap) (6) .nilIface F #[.int .i64 y0, .int .i64 y1, .slice none 0 0] 36) := hide (HT5.out.moved hg hc)
  clear C hc hg HT5
  go_wp2_with fail
  refine (demand_yes (w.heap.size + 1) 6 (.slice (some ⟨b, off, none⟩) n cap) _ _ HT6.out.1.2.2).mono ?_
  rintro e w' ⟨rfl, hw⟩
  rw [hw]
  clear hw
  go_wp2_with fail
  have ct := tk2 (w.heap.size + 1) (6) n cap b off zs X6 HT6.out.1.2.2 hm2 (by omega) hcap HN.out (HA.out.below HT6.out.1.1 (Nat.le_refl _)) hbne
  rw [HY3.out] at ct
  have C := hide ct
  clear ct
  refine C.out.mono ?_
  rintro e X7 ⟨rfl, hc, hg⟩
  have HT7 : Hid (DS1 w X7 #[.int .i64 0, .int .i64 0, .slice none 0 0] 36 (.slice (some ⟨b, off, none⟩) n cap) (8) .nilIface F #[.int .i64 y0, .int .i64 y1, .slice none 0 0] 36) := hide (HT6.out.moved hg hc)
  clear C hc hg HT6
  go_wp2_with fail
  refine (demand_yes (w.heap.size + 1) 8 (.slice (some ⟨b, off, none⟩) n cap) _ _ HT7.out.1.2.2).mono ?_
  rintro e w' ⟨rfl, hw⟩
  rw [hw]
  clear hw
  go_wp2_with fail
  refine (left_walk (w.heap.size + 1) 8 n cap _ _ _ HT7.out.1.2.2 (by omega) (by omega)).mono ?_
  rintro e w' ⟨rfl, mm, rfl⟩
  have HT8 : Hid (DS1 w (X7.drewN mm) #[.int .i64 0, .int .i64 0, .slice none 0 0] 36 (.slice (some ⟨b, off, none⟩) n cap) (8) .nilIface F #[.int .i64 y0, .int .i64 y1, .slice none 0 0] 36) := hide (HT7.out.drewN mm)
  generalize X7.drewN mm = X8 at *
  clear HT7
  go_wp2_with fail
  have hFl := HT8.out.2.1.lt
  have C := hide (takeBytes_any (w.heap.size + 1) (8) n cap b off (n - 8) zs X8 HT8.out.1.2.2 hm2 (by omega) hcap HN.out (HA.out.below HT8.out.1.1 (Nat.le_refl _)) hbne)
  rw [show ((n : Int) - 8) = ((n - 8 : Nat) : Int) by omega]
  refine C.out.mono ?_
  rintro e X9 ⟨vb, rfl, hO, hc, hg⟩
  have HT9 : Hid (DS1 w X9 #[.int .i64 0, .int .i64 0, .slice none 0 0] 36 (.slice (some ⟨b, off, none⟩) n cap) (8 + (n - 8)) .nilIface F #[.int .i64 y0, .int .i64 y1, .slice none 0 0] 36) := hide (HT8.out.moved hg hc)
  rw [HYL.out] at hO
  have HO := hide (hO.mono (show F + 1 ≤ X8.heap.size from hFl))
  obtain ⟨ab, lb, cb, eb⟩ : ∃ (x : Option Addr) (y z : Nat), vb = .slice x y z := by obtain ⟨x, z, e, _⟩ := own_slice HO.out; exact ⟨x, _, z, e⟩
  subst eb
  clear C hc hg hO hFl HT8
  have k0 := HT9.out.2.1.cell 2 _ rfl
  have fz := HT9.out.2.1.frozen
  have HT10 : Hid (DS1 w (X9.setCell ⟨F, 2, none⟩ (.slice ab lb cb)) #[.int .i64 0, .int .i64 0, .slice none 0 0] 36 (.slice (some ⟨b, off, none⟩) n cap) (8 + (n - 8)) .nilIface F #[.int .i64 y0, .int .i64 y1, .slice ab lb cb] 36) := hide (HT9.out.set 2 (.slice ab lb cb))
  have HO2 := hide ((HO.out.setBelow (a := ⟨F, 2, none⟩) (Nat.lt_succ_self _) (.slice ab lb cb)).mono (show w.heap.size + 1 ≤ F + 1 by omega))
  go_wp2_with fail
  generalize X9.setCell ⟨F, 2, none⟩ (.slice ab lb cb) = X10 at *
  clear k0 fz HT9 HO
  have HTD := hide (HT10.out.drew)
  have HOD := hide (HO2.out.drew)
  have CA := hide (ansDatagram_nil (y0) (y1) ab lb cb X10.drew)
  have HK : Hid (X10.drew.cell? ⟨F, 0, none⟩ = some (.int .i64 y0) ∧ X10.drew.cell? ⟨F, 1, none⟩ = some (.int .i64 y1) ∧ X10.drew.cell? ⟨F, 2, none⟩ = some (.slice ab lb cb) ∧ X10.drew.cell? ⟨w.heap.size + 1, 2, none⟩ = some .nilIface) := hide ⟨HTD.out.2.1.cell 0 _ rfl, HTD.out.2.1.cell 1 _ rfl, HTD.out.2.1.cell 2 _ rfl, HTD.out.1.2.2.cells.2.2.1⟩
  have hRF : w.heap.size ≠ F := by omega
  have hRC : w.heap.size ≠ w.heap.size + 1 := by omega
  clear HT10 HO2
  go_region_held3 (fun w' => w'.cell? ⟨F, 0, none⟩ = some (.int .i64 y0) ∧ w'.cell? ⟨F, 1, none⟩ = some (.int .i64 y1) ∧ w'.cell? ⟨F, 2, none⟩ = some (.slice ab lb cb) ∧ w'.cell? ⟨w.heap.size + 1, 2, none⟩ = some .nilIface) (first | with_reducible assumption | with_reducible exact HK.out | exact ⟨far3 hRF hk9.1, far3 hRF hk9.2.1, far3 hRF hk9.2.2.1, far3 hRC hk9.2.2.2⟩)
    ((go_at_call 55; refine CA.out.mono ?_; rintro e w8 ⟨rfl, hb8⟩; have hk9 : w8.cell? ⟨F, 0, none⟩ = some (.int .i64 y0) ∧ w8.cell? ⟨F, 1, none⟩ = some (.int .i64 y1) ∧ w8.cell? ⟨F, 2, none⟩ = some (.slice ab lb cb) ∧ w8.cell? ⟨w.heap.size + 1, 2, none⟩ = some .nilIface := ⟨(HTD.out.next hb8).2.1.cell 0 _ rfl, (HTD.out.next hb8).2.1.cell 1 _ rfl, (HTD.out.next hb8).2.1.cell 2 _ rfl, (HTD.out.next hb8).1.2.2.cells.2.2.1⟩; have d0 := (HTD.out.next hb8).1.2.1.cell 0 _ rfl; have d1 := (HTD.out.next hb8).1.2.1.cell 1 _ rfl; have d2 := (HTD.out.next hb8).1.2.1.cell 2 _ rfl; have fz := (HTD.out.next hb8).1.2.1.frozen))
  all_goals
    have HT9 := hide (HTD.out.next hb8)
    have HO9 := hide (HOD.out.next hb8)
    clear hb8 HTD CA HK hk9
    go_wp2_with fail
    exact bodyPost_ret (v := .tuple #[.agg #[.int .i64 y0, .int .i64 y1, .slice ab lb cb], .int .i64 0]) (by simp [results, Tryd.results19, go_sem, d0, d1, d2]) rfl ⟨_, rfl, (((HO9.out.setBelow (a := ⟨w.heap.size, 0, none⟩) (Nat.lt_succ_self _) _).setBelow (a := ⟨w.heap.size, 1, none⟩) (Nat.lt_succ_self _) _).setBelow (a := ⟨w.heap.size, 2, none⟩) (Nat.lt_succ_self _) _).mono (Nat.le_succ _), (((HT9.out.1.1.setCell (p := ⟨w.heap.size, 0, none⟩) (Nat.le_refl _) _).setCell (p := ⟨w.heap.size, 1, none⟩) (Nat.le_refl _) _).setCell (p := ⟨w.heap.size, 2, none⟩) (Nat.le_refl _) _)⟩
end Go.Proofs.YtakoagfeiolkjabDoor
