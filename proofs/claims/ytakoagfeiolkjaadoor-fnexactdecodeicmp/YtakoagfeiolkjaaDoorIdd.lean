/-
Contracts of functions of this seat.
-/
import Derived.Test.YtakoagfeiolkjaaDoorRows
import Derived.WalkKit
import Derived.ProofKit
import Derived.OpenShut
import Derived.Test.YtakoagfeiolkjaaDoorIt0
namespace Go.Proofs.YtakoagfeiolkjaaDoor
open Go.ChangeShapes Go.WideShapes Go.ChangeAt Go.RowKit
set_option linter.unusedVariables false
set_option maxRecDepth 100000
theorem far4 {w : World} {R F j : Nat} (h : R ≠ F) {v : Option Value} {x0 x1 x2 x3 : Value} (k : w.cell? ⟨F, j, none⟩ = v) : ((((w.setCell ⟨R, 0, none⟩ x0).setCell ⟨R, 1, none⟩ x1).setCell ⟨R, 2, none⟩ x2).setCell ⟨R, 3, none⟩ x3).cell? ⟨F, j, none⟩ = v := (World.cell?_setCell_far _ _ _ _ h).trans ((World.cell?_setCell_far _ _ _ _ h).trans ((World.cell?_setCell_far _ _ _ _ h).trans ((World.cell?_setCell_far _ _ _ _ h).trans (k))))
set_option maxHeartbeats 8000000 in
theorem implDecI_short (a : Option Addr) (n cap : Nat) (zs : List Int) (w : World) (hn : zs.length = n) (ha : Arr w a zs) (hm : n ≤ 1048576) (he : ErrT w) (h : n < 8) :
    Calls Tryd.prog 12 #[.slice a n cap] w fun e w' => e = .returned (.tuple #[.agg #[.int .i64 0, .int .i64 0, .int .i64 0, .slice none 0 0], .int .i64 2]) ∧ Below w.heap.size w w' := by
  have HS0 := hide (DS0.start w #[.int .i64 0, .int .i64 0, .int .i64 0, .slice none 0 0] 32 (.slice a n cap))
  have HA := hide ha
  have HN := hide hn
  have HE := hide he
  clear he
  have hd1 : decide ((8 : Int) ≤ (n : Int)) = false := decide_eq_false (by omega)
  clear ha hn
  go_enter Tryd.func12, Tryd.ntmps12
  go_wp2_with fail
  generalize hW : (w.alloc (.cells #[.int .i64 0, .int .i64 0, .int .i64 0, .slice none 0 0] 32)).alloc (.cells #[.slice a n cap, .int .i64 0, .nilIface] 51) = W0 at *
  clear hW
  refine (demand_no (w.heap.size + 1) 0 (.slice a n cap) _ _ HS0.out.2.2).mono ?_
  rintro e W1 ⟨rfl, hc, hg⟩
  have HS1 := hide (HS0.out.moved hg hc)
  clear hc hg HS0
  go_wp2_with fail
  refine (demand_err (w.heap.size + 1) 0 (.slice a n cap) 2 _ _ _ HS1.out.2.2).mono ?_
  rintro e w' ⟨rfl, hw⟩
  rw [hw]
  clear hw
  go_wp2_with fail
  have hk := checksum_walk a n cap zs W1 HN.out (HA.out.below HS1.out.1 (Nat.le_refl _)) hm
  have CK : Hid (Calls Tryd.prog 30 #[.slice a n cap] W1 fun e w' => e = .returned (.int .i64 (csum zs)) ∧ Below W1.heap.size W1 w') := hide (hk.mono (by rintro e w' ⟨rfl, hb, _⟩; refine ⟨?_, hb⟩; unfold csum; rw [HN.out]))
  clear hk
  refine CK.out.mono ?_
  rintro e W2 ⟨rfl, hb⟩
  have HS2 := hide (HS1.out.next hb)
  clear CK hb HS1
  go_wp2_with fail
  refine (demand_err (w.heap.size + 1) 0 (.slice a n cap) 2 _ _ _ HS2.out.2.2).mono ?_
  rintro e w' ⟨rfl, hw⟩
  rw [hw]
  clear hw
  have HT0 := hide (DS1.start HS2.out #[.int .i64 0, .int .i64 0, .int .i64 0, .slice none 0 0] 32)
  have hF : w.heap.size + 1 < W2.heap.size := HS2.out.2.2.lt
  clear HS2
  go_wp2_with fail
  generalize hV : W2.alloc (.cells #[.int .i64 0, .int .i64 0, .int .i64 0, .slice none 0 0] 32) = V0 at *
  clear hV
  generalize W2.heap.size = F at *
  refine (take_err (w.heap.size + 1) 0 n cap _ 2 1 _ HT0.out.1.2.2 (by omega) (by omega) (by omega) (by omega)).mono ?_
  rintro e w' ⟨rfl, mm, rfl⟩
  have HT1 : Hid (DS1 w (V0.drewN mm) #[.int .i64 0, .int .i64 0, .int .i64 0, .slice none 0 0] 32 (.slice a n cap) (0) (wErr 2) F #[.int .i64 0, .int .i64 0, .int .i64 0, .slice none 0 0] 32) := hide (HT0.out.drewN mm)
  generalize V0.drewN mm = V1 at *
  clear HT0
  have k0 := HT1.out.2.1.cell 0 _ rfl
  have fz := HT1.out.2.1.frozen
  have HT2 : Hid (DS1 w (V1.setCell ⟨F, 0, none⟩ (.int .i64 0)) #[.int .i64 0, .int .i64 0, .int .i64 0, .slice none 0 0] 32 (.slice a n cap) (0) (wErr 2) F #[.int .i64 0, .int .i64 0, .int .i64 0, .slice none 0 0] 32) := hide (HT1.out.set 0 (.int .i64 0))
  go_wp2_with fail
  generalize V1.setCell ⟨F, 0, none⟩ (.int .i64 0) = V2 at *
  clear k0 fz HT1
  refine (take_err (w.heap.size + 1) 0 n cap _ 2 1 _ HT2.out.1.2.2 (by omega) (by omega) (by omega) (by omega)).mono ?_
  rintro e w' ⟨rfl, mm, rfl⟩
  have HT3 : Hid (DS1 w (V2.drewN mm) #[.int .i64 0, .int .i64 0, .int .i64 0, .slice none 0 0] 32 (.slice a n cap) (0) (wErr 2) F #[.int .i64 0, .int .i64 0, .int .i64 0, .slice none 0 0] 32) := hide (HT2.out.drewN mm)
  generalize V2.drewN mm = V3 at *
  clear HT2
  have k0 := HT3.out.2.1.cell 1 _ rfl
  have fz := HT3.out.2.1.frozen
  have HT4 : Hid (DS1 w (V3.setCell ⟨F, 1, none⟩ (.int .i64 0)) #[.int .i64 0, .int .i64 0, .int .i64 0, .slice none 0 0] 32 (.slice a n cap) (0) (wErr 2) F #[.int .i64 0, .int .i64 0, .int .i64 0, .slice none 0 0] 32) := hide (HT3.out.set 1 (.int .i64 0))
  go_wp2_with fail
  generalize V3.setCell ⟨F, 1, none⟩ (.int .i64 0) = V4 at *
  clear k0 fz HT3
  refine (pass_err (w.heap.size + 1) 0 n cap _ 2 2 _ HT4.out.1.2.2 (by omega) (by omega) (by omega) (by omega)).mono ?_
  rintro e w' ⟨rfl, mm, rfl⟩
  have HT5 : Hid (DS1 w (V4.drewN mm) #[.int .i64 0, .int .i64 0, .int .i64 0, .slice none 0 0] 32 (.slice a n cap) (0) (wErr 2) F #[.int .i64 0, .int .i64 0, .int .i64 0, .slice none 0 0] 32) := hide (HT4.out.drewN mm)
  generalize V4.drewN mm = V5 at *
  clear HT4
  go_wp2_with fail
  refine (take_err (w.heap.size + 1) 0 n cap _ 2 4 _ HT5.out.1.2.2 (by omega) (by omega) (by omega) (by omega)).mono ?_
  rintro e w' ⟨rfl, mm, rfl⟩
  have HT6 : Hid (DS1 w (V5.drewN mm) #[.int .i64 0, .int .i64 0, .int .i64 0, .slice none 0 0] 32 (.slice a n cap) (0) (wErr 2) F #[.int .i64 0, .int .i64 0, .int .i64 0, .slice none 0 0] 32) := hide (HT5.out.drewN mm)
  generalize V5.drewN mm = V6 at *
  clear HT5
  have k0 := HT6.out.2.1.cell 2 _ rfl
  have fz := HT6.out.2.1.frozen
  have HT7 : Hid (DS1 w (V6.setCell ⟨F, 2, none⟩ (.int .i64 0)) #[.int .i64 0, .int .i64 0, .int .i64 0, .slice none 0 0] 32 (.slice a n cap) (0) (wErr 2) F #[.int .i64 0, .int .i64 0, .int .i64 0, .slice none 0 0] 32) := hide (HT6.out.set 2 (.int .i64 0))
  go_wp2_with fail
  generalize V6.setCell ⟨F, 2, none⟩ (.int .i64 0) = V7 at *
  clear k0 fz HT6
  refine (left_walk (w.heap.size + 1) 0 n cap _ _ _ HT7.out.1.2.2 (by omega) (by omega)).mono ?_
  rintro e w' ⟨rfl, mm, rfl⟩
  have HT8 : Hid (DS1 w (V7.drewN mm) #[.int .i64 0, .int .i64 0, .int .i64 0, .slice none 0 0] 32 (.slice a n cap) (0) (wErr 2) F #[.int .i64 0, .int .i64 0, .int .i64 0, .slice none 0 0] 32) := hide (HT7.out.drewN mm)
  generalize V7.drewN mm = V8 at *
  clear HT7
  go_wp2_with fail
  have C := hide (takeBytes_err (w.heap.size + 1) 0 n cap _ 2 (n : Int) V8 HT8.out.1.2.2 (by omega) (by omega) (by omega) (by omega))
  refine C.out.mono ?_
  rintro e V9 ⟨rfl, hb⟩
  have HT9 := hide (HT8.out.next hb)
  clear C hb HT8
  generalize V8.heap.size = XB at *
  have k0 := HT9.out.2.1.cell 3 _ rfl
  have fz := HT9.out.2.1.frozen
  have HT10 : Hid (DS1 w (V9.setCell ⟨F, 3, none⟩ (.slice (some ⟨XB, 0, none⟩) 0 0)) #[.int .i64 0, .int .i64 0, .int .i64 0, .slice none 0 0] 32 (.slice a n cap) (0) (wErr 2) F #[.int .i64 0, .int .i64 0, .int .i64 0, .slice (some ⟨XB, 0, none⟩) 0 0] 32) := hide (HT9.out.set 3 (.slice (some ⟨XB, 0, none⟩) 0 0))
  go_wp2_with fail
  generalize V9.setCell ⟨F, 3, none⟩ (.slice (some ⟨XB, 0, none⟩) 0 0) = V10 at *
  clear k0 fz HT9
  have HTD := hide (HT10.out.drew)
  have HE7 := hide (HE.out.below HTD.out.1.1 (Nat.le_refl _))
  clear HE
  have CA := hide (ansIcmp_err (0) (0) (0) (some ⟨XB, 0, none⟩) 0 0 2 (by decide) V10.drew HE7.out)
  have HK : Hid (V10.drew.cell? ⟨F, 0, none⟩ = some (.int .i64 0) ∧ V10.drew.cell? ⟨F, 1, none⟩ = some (.int .i64 0) ∧ V10.drew.cell? ⟨F, 2, none⟩ = some (.int .i64 0) ∧ V10.drew.cell? ⟨F, 3, none⟩ = some (.slice (some ⟨XB, 0, none⟩) 0 0) ∧ V10.drew.cell? ⟨w.heap.size + 1, 2, none⟩ = some (wErr 2)) := hide ⟨HTD.out.2.1.cell 0 _ rfl, HTD.out.2.1.cell 1 _ rfl, HTD.out.2.1.cell 2 _ rfl, HTD.out.2.1.cell 3 _ rfl, HTD.out.1.2.2.cells.2.2.1⟩
  have hRF : w.heap.size ≠ F := by omega
  have hRC : w.heap.size ≠ w.heap.size + 1 := by omega
  clear HT10 HE7
  go_region_held3 (fun w' => w'.cell? ⟨F, 0, none⟩ = some (.int .i64 0) ∧ w'.cell? ⟨F, 1, none⟩ = some (.int .i64 0) ∧ w'.cell? ⟨F, 2, none⟩ = some (.int .i64 0) ∧ w'.cell? ⟨F, 3, none⟩ = some (.slice (some ⟨XB, 0, none⟩) 0 0) ∧ w'.cell? ⟨w.heap.size + 1, 2, none⟩ = some (wErr 2)) (first | with_reducible assumption | with_reducible exact HK.out | exact ⟨far4 hRF hk9.1, far4 hRF hk9.2.1, far4 hRF hk9.2.2.1, far4 hRF hk9.2.2.2.1, far4 hRC hk9.2.2.2.2⟩)
    ((go_at_call 34; refine CA.out.mono ?_; rintro e w8 ⟨rfl, hb8⟩; have hk9 : w8.cell? ⟨F, 0, none⟩ = some (.int .i64 0) ∧ w8.cell? ⟨F, 1, none⟩ = some (.int .i64 0) ∧ w8.cell? ⟨F, 2, none⟩ = some (.int .i64 0) ∧ w8.cell? ⟨F, 3, none⟩ = some (.slice (some ⟨XB, 0, none⟩) 0 0) ∧ w8.cell? ⟨w.heap.size + 1, 2, none⟩ = some (wErr 2) := ⟨(HTD.out.next hb8).2.1.cell 0 _ rfl, (HTD.out.next hb8).2.1.cell 1 _ rfl, (HTD.out.next hb8).2.1.cell 2 _ rfl, (HTD.out.next hb8).2.1.cell 3 _ rfl, (HTD.out.next hb8).1.2.2.cells.2.2.1⟩; have d0 := (HTD.out.next hb8).1.2.1.cell 0 _ rfl; have d1 := (HTD.out.next hb8).1.2.1.cell 1 _ rfl; have d2 := (HTD.out.next hb8).1.2.1.cell 2 _ rfl; have d3 := (HTD.out.next hb8).1.2.1.cell 3 _ rfl; have fz := (HTD.out.next hb8).1.2.1.frozen))
  all_goals
    have HT9 := hide (HTD.out.next hb8)
    clear hb8 HTD CA HK hk9
    go_wp2_with fail
    exact bodyPost_ret (v := .tuple #[.agg #[.int .i64 0, .int .i64 0, .int .i64 0, .slice none 0 0], .int .i64 2]) (by simp [results, Tryd.results12, go_sem, d0, d1, d2, d3]) rfl ⟨rfl, ((((HT9.out.1.1.setCell (p := ⟨w.heap.size, 0, none⟩) (Nat.le_refl _) _).setCell (p := ⟨w.heap.size, 1, none⟩) (Nat.le_refl _) _).setCell (p := ⟨w.heap.size, 2, none⟩) (Nat.le_refl _) _).setCell (p := ⟨w.heap.size, 3, none⟩) (Nat.le_refl _) _)⟩
set_option maxHeartbeats 8000000 in
theorem implDecI_long (a : Option Addr) (n cap : Nat) (zs : List Int) (w : World) (hn : zs.length = n) (ha : Arr w a zs) (hm : n ≤ 1048576) (he : ErrT w) (h : 65008 < n) :
    Calls Tryd.prog 12 #[.slice a n cap] w fun e w' => e = .returned (.tuple #[.agg #[.int .i64 0, .int .i64 0, .int .i64 0, .slice none 0 0], .int .i64 7]) ∧ Below w.heap.size w w' := by
  have HS0 := hide (DS0.start w #[.int .i64 0, .int .i64 0, .int .i64 0, .slice none 0 0] 32 (.slice a n cap))
  have HA := hide ha
  have HN := hide hn
  have HE := hide he
  clear he
  have hd1 : decide ((8 : Int) ≤ (n : Int)) = true := decide_eq_true (by omega)
  have hd2 : decide ((n : Int) ≤ 65008) = false := decide_eq_false (by omega)
  clear ha hn
  go_enter Tryd.func12, Tryd.ntmps12
  go_wp2_with fail
  generalize hW : (w.alloc (.cells #[.int .i64 0, .int .i64 0, .int .i64 0, .slice none 0 0] 32)).alloc (.cells #[.slice a n cap, .int .i64 0, .nilIface] 51) = W0 at *
  clear hW
  refine (demand_yes (w.heap.size + 1) 0 (.slice a n cap) _ _ HS0.out.2.2).mono ?_
  rintro e w' ⟨rfl, hw⟩
  rw [hw]
  clear hw
  go_wp2_with fail
  refine (demand_no (w.heap.size + 1) 0 (.slice a n cap) _ _ HS0.out.2.2).mono ?_
  rintro e W1 ⟨rfl, hc, hg⟩
  have HS1 := hide (HS0.out.moved hg hc)
  clear hc hg HS0
  go_wp2_with fail
  have hk := checksum_walk a n cap zs W1 HN.out (HA.out.below HS1.out.1 (Nat.le_refl _)) hm
  have CK : Hid (Calls Tryd.prog 30 #[.slice a n cap] W1 fun e w' => e = .returned (.int .i64 (csum zs)) ∧ Below W1.heap.size W1 w') := hide (hk.mono (by rintro e w' ⟨rfl, hb, _⟩; refine ⟨?_, hb⟩; unfold csum; rw [HN.out]))
  clear hk
  refine CK.out.mono ?_
  rintro e W2 ⟨rfl, hb⟩
  have HS2 := hide (HS1.out.next hb)
  clear CK hb HS1
  go_wp2_with fail
  refine (demand_err (w.heap.size + 1) 0 (.slice a n cap) 7 _ _ _ HS2.out.2.2).mono ?_
  rintro e w' ⟨rfl, hw⟩
  rw [hw]
  clear hw
  have HT0 := hide (DS1.start HS2.out #[.int .i64 0, .int .i64 0, .int .i64 0, .slice none 0 0] 32)
  have hF : w.heap.size + 1 < W2.heap.size := HS2.out.2.2.lt
  clear HS2
  go_wp2_with fail
  generalize hV : W2.alloc (.cells #[.int .i64 0, .int .i64 0, .int .i64 0, .slice none 0 0] 32) = V0 at *
  clear hV
  generalize W2.heap.size = F at *
  refine (take_err (w.heap.size + 1) 0 n cap _ 7 1 _ HT0.out.1.2.2 (by omega) (by omega) (by omega) (by omega)).mono ?_
  rintro e w' ⟨rfl, mm, rfl⟩
  have HT1 : Hid (DS1 w (V0.drewN mm) #[.int .i64 0, .int .i64 0, .int .i64 0, .slice none 0 0] 32 (.slice a n cap) (0) (wErr 7) F #[.int .i64 0, .int .i64 0, .int .i64 0, .slice none 0 0] 32) := hide (HT0.out.drewN mm)
  generalize V0.drewN mm = V1 at *
  clear HT0
  have k0 := HT1.out.2.1.cell 0 _ rfl
  have fz := HT1.out.2.1.frozen
  have HT2 : Hid (DS1 w (V1.setCell ⟨F, 0, none⟩ (.int .i64 0)) #[.int .i64 0, .int .i64 0, .int .i64 0, .slice none 0 0] 32 (.slice a n cap) (0) (wErr 7) F #[.int .i64 0, .int .i64 0, .int .i64 0, .slice none 0 0] 32) := hide (HT1.out.set 0 (.int .i64 0))
  go_wp2_with fail
  generalize V1.setCell ⟨F, 0, none⟩ (.int .i64 0) = V2 at *
  clear k0 fz HT1
  refine (take_err (w.heap.size + 1) 0 n cap _ 7 1 _ HT2.out.1.2.2 (by omega) (by omega) (by omega) (by omega)).mono ?_
  rintro e w' ⟨rfl, mm, rfl⟩
  have HT3 : Hid (DS1 w (V2.drewN mm) #[.int .i64 0, .int .i64 0, .int .i64 0, .slice none 0 0] 32 (.slice a n cap) (0) (wErr 7) F #[.int .i64 0, .int .i64 0, .int .i64 0, .slice none 0 0] 32) := hide (HT2.out.drewN mm)
  generalize V2.drewN mm = V3 at *
  clear HT2
  have k0 := HT3.out.2.1.cell 1 _ rfl
  have fz := HT3.out.2.1.frozen
  have HT4 : Hid (DS1 w (V3.setCell ⟨F, 1, none⟩ (.int .i64 0)) #[.int .i64 0, .int .i64 0, .int .i64 0, .slice none 0 0] 32 (.slice a n cap) (0) (wErr 7) F #[.int .i64 0, .int .i64 0, .int .i64 0, .slice none 0 0] 32) := hide (HT3.out.set 1 (.int .i64 0))
  go_wp2_with fail
  generalize V3.setCell ⟨F, 1, none⟩ (.int .i64 0) = V4 at *
  clear k0 fz HT3
  refine (pass_err (w.heap.size + 1) 0 n cap _ 7 2 _ HT4.out.1.2.2 (by omega) (by omega) (by omega) (by omega)).mono ?_
  rintro e w' ⟨rfl, mm, rfl⟩
  have HT5 : Hid (DS1 w (V4.drewN mm) #[.int .i64 0, .int .i64 0, .int .i64 0, .slice none 0 0] 32 (.slice a n cap) (0) (wErr 7) F #[.int .i64 0, .int .i64 0, .int .i64 0, .slice none 0 0] 32) := hide (HT4.out.drewN mm)
  generalize V4.drewN mm = V5 at *
  clear HT4
  go_wp2_with fail
  refine (take_err (w.heap.size + 1) 0 n cap _ 7 4 _ HT5.out.1.2.2 (by omega) (by omega) (by omega) (by omega)).mono ?_
  rintro e w' ⟨rfl, mm, rfl⟩
  have HT6 : Hid (DS1 w (V5.drewN mm) #[.int .i64 0, .int .i64 0, .int .i64 0, .slice none 0 0] 32 (.slice a n cap) (0) (wErr 7) F #[.int .i64 0, .int .i64 0, .int .i64 0, .slice none 0 0] 32) := hide (HT5.out.drewN mm)
  generalize V5.drewN mm = V6 at *
  clear HT5
  have k0 := HT6.out.2.1.cell 2 _ rfl
  have fz := HT6.out.2.1.frozen
  have HT7 : Hid (DS1 w (V6.setCell ⟨F, 2, none⟩ (.int .i64 0)) #[.int .i64 0, .int .i64 0, .int .i64 0, .slice none 0 0] 32 (.slice a n cap) (0) (wErr 7) F #[.int .i64 0, .int .i64 0, .int .i64 0, .slice none 0 0] 32) := hide (HT6.out.set 2 (.int .i64 0))
  go_wp2_with fail
  generalize V6.setCell ⟨F, 2, none⟩ (.int .i64 0) = V7 at *
  clear k0 fz HT6
  refine (left_walk (w.heap.size + 1) 0 n cap _ _ _ HT7.out.1.2.2 (by omega) (by omega)).mono ?_
  rintro e w' ⟨rfl, mm, rfl⟩
  have HT8 : Hid (DS1 w (V7.drewN mm) #[.int .i64 0, .int .i64 0, .int .i64 0, .slice none 0 0] 32 (.slice a n cap) (0) (wErr 7) F #[.int .i64 0, .int .i64 0, .int .i64 0, .slice none 0 0] 32) := hide (HT7.out.drewN mm)
  generalize V7.drewN mm = V8 at *
  clear HT7
  go_wp2_with fail
  have C := hide (takeBytes_err (w.heap.size + 1) 0 n cap _ 7 (n : Int) V8 HT8.out.1.2.2 (by omega) (by omega) (by omega) (by omega))
  refine C.out.mono ?_
  rintro e V9 ⟨rfl, hb⟩
  have HT9 := hide (HT8.out.next hb)
  clear C hb HT8
  generalize V8.heap.size = XB at *
  have k0 := HT9.out.2.1.cell 3 _ rfl
  have fz := HT9.out.2.1.frozen
  have HT10 : Hid (DS1 w (V9.setCell ⟨F, 3, none⟩ (.slice (some ⟨XB, 0, none⟩) 0 0)) #[.int .i64 0, .int .i64 0, .int .i64 0, .slice none 0 0] 32 (.slice a n cap) (0) (wErr 7) F #[.int .i64 0, .int .i64 0, .int .i64 0, .slice (some ⟨XB, 0, none⟩) 0 0] 32) := hide (HT9.out.set 3 (.slice (some ⟨XB, 0, none⟩) 0 0))
  go_wp2_with fail
  generalize V9.setCell ⟨F, 3, none⟩ (.slice (some ⟨XB, 0, none⟩) 0 0) = V10 at *
  clear k0 fz HT9
  have HTD := hide (HT10.out.drew)
  have HE7 := hide (HE.out.below HTD.out.1.1 (Nat.le_refl _))
  clear HE
  have CA := hide (ansIcmp_err (0) (0) (0) (some ⟨XB, 0, none⟩) 0 0 7 (by decide) V10.drew HE7.out)
  have HK : Hid (V10.drew.cell? ⟨F, 0, none⟩ = some (.int .i64 0) ∧ V10.drew.cell? ⟨F, 1, none⟩ = some (.int .i64 0) ∧ V10.drew.cell? ⟨F, 2, none⟩ = some (.int .i64 0) ∧ V10.drew.cell? ⟨F, 3, none⟩ = some (.slice (some ⟨XB, 0, none⟩) 0 0) ∧ V10.drew.cell? ⟨w.heap.size + 1, 2, none⟩ = some (wErr 7)) := hide ⟨HTD.out.2.1.cell 0 _ rfl, HTD.out.2.1.cell 1 _ rfl, HTD.out.2.1.cell 2 _ rfl, HTD.out.2.1.cell 3 _ rfl, HTD.out.1.2.2.cells.2.2.1⟩
  have hRF : w.heap.size ≠ F := by omega
  have hRC : w.heap.size ≠ w.heap.size + 1 := by omega
  clear HT10 HE7
  go_region_held3 (fun w' => w'.cell? ⟨F, 0, none⟩ = some (.int .i64 0) ∧ w'.cell? ⟨F, 1, none⟩ = some (.int .i64 0) ∧ w'.cell? ⟨F, 2, none⟩ = some (.int .i64 0) ∧ w'.cell? ⟨F, 3, none⟩ = some (.slice (some ⟨XB, 0, none⟩) 0 0) ∧ w'.cell? ⟨w.heap.size + 1, 2, none⟩ = some (wErr 7)) (first | with_reducible assumption | with_reducible exact HK.out | exact ⟨far4 hRF hk9.1, far4 hRF hk9.2.1, far4 hRF hk9.2.2.1, far4 hRF hk9.2.2.2.1, far4 hRC hk9.2.2.2.2⟩)
    ((go_at_call 34; refine CA.out.mono ?_; rintro e w8 ⟨rfl, hb8⟩; have hk9 : w8.cell? ⟨F, 0, none⟩ = some (.int .i64 0) ∧ w8.cell? ⟨F, 1, none⟩ = some (.int .i64 0) ∧ w8.cell? ⟨F, 2, none⟩ = some (.int .i64 0) ∧ w8.cell? ⟨F, 3, none⟩ = some (.slice (some ⟨XB, 0, none⟩) 0 0) ∧ w8.cell? ⟨w.heap.size + 1, 2, none⟩ = some (wErr 7) := ⟨(HTD.out.next hb8).2.1.cell 0 _ rfl, (HTD.out.next hb8).2.1.cell 1 _ rfl, (HTD.out.next hb8).2.1.cell 2 _ rfl, (HTD.out.next hb8).2.1.cell 3 _ rfl, (HTD.out.next hb8).1.2.2.cells.2.2.1⟩; have d0 := (HTD.out.next hb8).1.2.1.cell 0 _ rfl; have d1 := (HTD.out.next hb8).1.2.1.cell 1 _ rfl; have d2 := (HTD.out.next hb8).1.2.1.cell 2 _ rfl; have d3 := (HTD.out.next hb8).1.2.1.cell 3 _ rfl; have fz := (HTD.out.next hb8).1.2.1.frozen))
  all_goals
    have HT9 := hide (HTD.out.next hb8)
    clear hb8 HTD CA HK hk9
    go_wp2_with fail
    exact bodyPost_ret (v := .tuple #[.agg #[.int .i64 0, .int .i64 0, .int .i64 0, .slice none 0 0], .int .i64 7]) (by simp [results, Tryd.results12, go_sem, d0, d1, d2, d3]) rfl ⟨rfl, ((((HT9.out.1.1.setCell (p := ⟨w.heap.size, 0, none⟩) (Nat.le_refl _) _).setCell (p := ⟨w.heap.size, 1, none⟩) (Nat.le_refl _) _).setCell (p := ⟨w.heap.size, 2, none⟩) (Nat.le_refl _) _).setCell (p := ⟨w.heap.size, 3, none⟩) (Nat.le_refl _) _)⟩
set_option maxHeartbeats 8000000 in
theorem implDecI_sum (a : Option Addr) (n cap : Nat) (zs : List Int) (w : World) (hn : zs.length = n) (ha : Arr w a zs) (hm : n ≤ 1048576) (he : ErrT w) (h0 : 8 ≤ n) (h1 : n ≤ 65008) (hs : ¬ csum zs = 0) :
    Calls Tryd.prog 12 #[.slice a n cap] w fun e w' => e = .returned (.tuple #[.agg #[.int .i64 0, .int .i64 0, .int .i64 0, .slice none 0 0], .int .i64 3]) ∧ Below w.heap.size w w' := by
  have HS0 := hide (DS0.start w #[.int .i64 0, .int .i64 0, .int .i64 0, .slice none 0 0] 32 (.slice a n cap))
  have HA := hide ha
  have HN := hide hn
  have HE := hide he
  clear he
  have hd1 : decide ((8 : Int) ≤ (n : Int)) = true := decide_eq_true (by omega)
  have hd2 : decide ((n : Int) ≤ 65008) = true := decide_eq_true (by omega)
  have hd3 : (csum zs == 0) = false := by simpa using hs
  clear ha hn
  go_enter Tryd.func12, Tryd.ntmps12
  go_wp2_with fail
  generalize hW : (w.alloc (.cells #[.int .i64 0, .int .i64 0, .int .i64 0, .slice none 0 0] 32)).alloc (.cells #[.slice a n cap, .int .i64 0, .nilIface] 51) = W0 at *
  clear hW
  refine (demand_yes (w.heap.size + 1) 0 (.slice a n cap) _ _ HS0.out.2.2).mono ?_
  rintro e w' ⟨rfl, hw⟩
  rw [hw]
  clear hw
  go_wp2_with fail
  refine (demand_yes (w.heap.size + 1) 0 (.slice a n cap) _ _ HS0.out.2.2).mono ?_
  rintro e w' ⟨rfl, hw⟩
  rw [hw]
  clear hw
  go_wp2_with fail
  have hk := checksum_walk a n cap zs W0 HN.out (HA.out.below HS0.out.1 (Nat.le_refl _)) hm
  have CK : Hid (Calls Tryd.prog 30 #[.slice a n cap] W0 fun e w' => e = .returned (.int .i64 (csum zs)) ∧ Below W0.heap.size W0 w') := hide (hk.mono (by rintro e w' ⟨rfl, hb, _⟩; refine ⟨?_, hb⟩; unfold csum; rw [HN.out]))
  clear hk
  refine CK.out.mono ?_
  rintro e W1 ⟨rfl, hb⟩
  have HS1 := hide (HS0.out.next hb)
  clear CK hb HS0
  go_wp2_with fail
  refine (demand_no (w.heap.size + 1) 0 (.slice a n cap) _ _ HS1.out.2.2).mono ?_
  rintro e W2 ⟨rfl, hc, hg⟩
  have HS2 := hide (HS1.out.moved hg hc)
  clear hc hg HS1
  have HT0 := hide (DS1.start HS2.out #[.int .i64 0, .int .i64 0, .int .i64 0, .slice none 0 0] 32)
  have hF : w.heap.size + 1 < W2.heap.size := HS2.out.2.2.lt
  clear HS2
  go_wp2_with fail
  generalize hV : W2.alloc (.cells #[.int .i64 0, .int .i64 0, .int .i64 0, .slice none 0 0] 32) = V0 at *
  clear hV
  generalize W2.heap.size = F at *
  refine (take_err (w.heap.size + 1) 0 n cap _ 3 1 _ HT0.out.1.2.2 (by omega) (by omega) (by omega) (by omega)).mono ?_
  rintro e w' ⟨rfl, mm, rfl⟩
  have HT1 : Hid (DS1 w (V0.drewN mm) #[.int .i64 0, .int .i64 0, .int .i64 0, .slice none 0 0] 32 (.slice a n cap) (0) (wErr 3) F #[.int .i64 0, .int .i64 0, .int .i64 0, .slice none 0 0] 32) := hide (HT0.out.drewN mm)
  generalize V0.drewN mm = V1 at *
  clear HT0
  have k0 := HT1.out.2.1.cell 0 _ rfl
  have fz := HT1.out.2.1.frozen
  have HT2 : Hid (DS1 w (V1.setCell ⟨F, 0, none⟩ (.int .i64 0)) #[.int .i64 0, .int .i64 0, .int .i64 0, .slice none 0 0] 32 (.slice a n cap) (0) (wErr 3) F #[.int .i64 0, .int .i64 0, .int .i64 0, .slice none 0 0] 32) := hide (HT1.out.set 0 (.int .i64 0))
  go_wp2_with fail
  generalize V1.setCell ⟨F, 0, none⟩ (.int .i64 0) = V2 at *
  clear k0 fz HT1
  refine (take_err (w.heap.size + 1) 0 n cap _ 3 1 _ HT2.out.1.2.2 (by omega) (by omega) (by omega) (by omega)).mono ?_
  rintro e w' ⟨rfl, mm, rfl⟩
  have HT3 : Hid (DS1 w (V2.drewN mm) #[.int .i64 0, .int .i64 0, .int .i64 0, .slice none 0 0] 32 (.slice a n cap) (0) (wErr 3) F #[.int .i64 0, .int .i64 0, .int .i64 0, .slice none 0 0] 32) := hide (HT2.out.drewN mm)
  generalize V2.drewN mm = V3 at *
  clear HT2
  have k0 := HT3.out.2.1.cell 1 _ rfl
  have fz := HT3.out.2.1.frozen
  have HT4 : Hid (DS1 w (V3.setCell ⟨F, 1, none⟩ (.int .i64 0)) #[.int .i64 0, .int .i64 0, .int .i64 0, .slice none 0 0] 32 (.slice a n cap) (0) (wErr 3) F #[.int .i64 0, .int .i64 0, .int .i64 0, .slice none 0 0] 32) := hide (HT3.out.set 1 (.int .i64 0))
  go_wp2_with fail
  generalize V3.setCell ⟨F, 1, none⟩ (.int .i64 0) = V4 at *
  clear k0 fz HT3
  refine (pass_err (w.heap.size + 1) 0 n cap _ 3 2 _ HT4.out.1.2.2 (by omega) (by omega) (by omega) (by omega)).mono ?_
  rintro e w' ⟨rfl, mm, rfl⟩
  have HT5 : Hid (DS1 w (V4.drewN mm) #[.int .i64 0, .int .i64 0, .int .i64 0, .slice none 0 0] 32 (.slice a n cap) (0) (wErr 3) F #[.int .i64 0, .int .i64 0, .int .i64 0, .slice none 0 0] 32) := hide (HT4.out.drewN mm)
  generalize V4.drewN mm = V5 at *
  clear HT4
  go_wp2_with fail
  refine (take_err (w.heap.size + 1) 0 n cap _ 3 4 _ HT5.out.1.2.2 (by omega) (by omega) (by omega) (by omega)).mono ?_
  rintro e w' ⟨rfl, mm, rfl⟩
  have HT6 : Hid (DS1 w (V5.drewN mm) #[.int .i64 0, .int .i64 0, .int .i64 0, .slice none 0 0] 32 (.slice a n cap) (0) (wErr 3) F #[.int .i64 0, .int .i64 0, .int .i64 0, .slice none 0 0] 32) := hide (HT5.out.drewN mm)
  generalize V5.drewN mm = V6 at *
  clear HT5
  have k0 := HT6.out.2.1.cell 2 _ rfl
  have fz := HT6.out.2.1.frozen
  have HT7 : Hid (DS1 w (V6.setCell ⟨F, 2, none⟩ (.int .i64 0)) #[.int .i64 0, .int .i64 0, .int .i64 0, .slice none 0 0] 32 (.slice a n cap) (0) (wErr 3) F #[.int .i64 0, .int .i64 0, .int .i64 0, .slice none 0 0] 32) := hide (HT6.out.set 2 (.int .i64 0))
  go_wp2_with fail
  generalize V6.setCell ⟨F, 2, none⟩ (.int .i64 0) = V7 at *
  clear k0 fz HT6
  refine (left_walk (w.heap.size + 1) 0 n cap _ _ _ HT7.out.1.2.2 (by omega) (by omega)).mono ?_
  rintro e w' ⟨rfl, mm, rfl⟩
  have HT8 : Hid (DS1 w (V7.drewN mm) #[.int .i64 0, .int .i64 0, .int .i64 0, .slice none 0 0] 32 (.slice a n cap) (0) (wErr 3) F #[.int .i64 0, .int .i64 0, .int .i64 0, .slice none 0 0] 32) := hide (HT7.out.drewN mm)
  generalize V7.drewN mm = V8 at *
  clear HT7
  go_wp2_with fail
  have C := hide (takeBytes_err (w.heap.size + 1) 0 n cap _ 3 (n : Int) V8 HT8.out.1.2.2 (by omega) (by omega) (by omega) (by omega))
  refine C.out.mono ?_
  rintro e V9 ⟨rfl, hb⟩
  have HT9 := hide (HT8.out.next hb)
  clear C hb HT8
  generalize V8.heap.size = XB at *
  have k0 := HT9.out.2.1.cell 3 _ rfl
  have fz := HT9.out.2.1.frozen
  have HT10 : Hid (DS1 w (V9.setCell ⟨F, 3, none⟩ (.slice (some ⟨XB, 0, none⟩) 0 0)) #[.int .i64 0, .int .i64 0, .int .i64 0, .slice none 0 0] 32 (.slice a n cap) (0) (wErr 3) F #[.int .i64 0, .int .i64 0, .int .i64 0, .slice (some ⟨XB, 0, none⟩) 0 0] 32) := hide (HT9.out.set 3 (.slice (some ⟨XB, 0, none⟩) 0 0))
  go_wp2_with fail
  generalize V9.setCell ⟨F, 3, none⟩ (.slice (some ⟨XB, 0, none⟩) 0 0) = V10 at *
  clear k0 fz HT9
  have HTD := hide (HT10.out.drew)
  have HE7 := hide (HE.out.below HTD.out.1.1 (Nat.le_refl _))
  clear HE
  have CA := hide (ansIcmp_err (0) (0) (0) (some ⟨XB, 0, none⟩) 0 0 3 (by decide) V10.drew HE7.out)
  have HK : Hid (V10.drew.cell? ⟨F, 0, none⟩ = some (.int .i64 0) ∧ V10.drew.cell? ⟨F, 1, none⟩ = some (.int .i64 0) ∧ V10.drew.cell? ⟨F, 2, none⟩ = some (.int .i64 0) ∧ V10.drew.cell? ⟨F, 3, none⟩ = some (.slice (some ⟨XB, 0, none⟩) 0 0) ∧ V10.drew.cell? ⟨w.heap.size + 1, 2, none⟩ = some (wErr 3)) := hide ⟨HTD.out.2.1.cell 0 _ rfl, HTD.out.2.1.cell 1 _ rfl, HTD.out.2.1.cell 2 _ rfl, HTD.out.2.1.cell 3 _ rfl, HTD.out.1.2.2.cells.2.2.1⟩
  have hRF : w.heap.size ≠ F := by omega
  have hRC : w.heap.size ≠ w.heap.size + 1 := by omega
  clear HT10 HE7
  go_region_held3 (fun w' => w'.cell? ⟨F, 0, none⟩ = some (.int .i64 0) ∧ w'.cell? ⟨F, 1, none⟩ = some (.int .i64 0) ∧ w'.cell? ⟨F, 2, none⟩ = some (.int .i64 0) ∧ w'.cell? ⟨F, 3, none⟩ = some (.slice (some ⟨XB, 0, none⟩) 0 0) ∧ w'.cell? ⟨w.heap.size + 1, 2, none⟩ = some (wErr 3)) (first | with_reducible assumption | with_reducible exact HK.out | exact ⟨far4 hRF hk9.1, far4 hRF hk9.2.1, far4 hRF hk9.2.2.1, far4 hRF hk9.2.2.2.1, far4 hRC hk9.2.2.2.2⟩)
    ((go_at_call 34; refine CA.out.mono ?_; rintro e w8 ⟨rfl, hb8⟩; have hk9 : w8.cell? ⟨F, 0, none⟩ = some (.int .i64 0) ∧ w8.cell? ⟨F, 1, none⟩ = some (.int .i64 0) ∧ w8.cell? ⟨F, 2, none⟩ = some (.int .i64 0) ∧ w8.cell? ⟨F, 3, none⟩ = some (.slice (some ⟨XB, 0, none⟩) 0 0) ∧ w8.cell? ⟨w.heap.size + 1, 2, none⟩ = some (wErr 3) := ⟨(HTD.out.next hb8).2.1.cell 0 _ rfl, (HTD.out.next hb8).2.1.cell 1 _ rfl, (HTD.out.next hb8).2.1.cell 2 _ rfl, (HTD.out.next hb8).2.1.cell 3 _ rfl, (HTD.out.next hb8).1.2.2.cells.2.2.1⟩; have d0 := (HTD.out.next hb8).1.2.1.cell 0 _ rfl; have d1 := (HTD.out.next hb8).1.2.1.cell 1 _ rfl; have d2 := (HTD.out.next hb8).1.2.1.cell 2 _ rfl; have d3 := (HTD.out.next hb8).1.2.1.cell 3 _ rfl; have fz := (HTD.out.next hb8).1.2.1.frozen))
  all_goals
    have HT9 := hide (HTD.out.next hb8)
    clear hb8 HTD CA HK hk9
    go_wp2_with fail
    exact bodyPost_ret (v := .tuple #[.agg #[.int .i64 0, .int .i64 0, .int .i64 0, .slice none 0 0], .int .i64 3]) (by simp [results, Tryd.results12, go_sem, d0, d1, d2, d3]) rfl ⟨rfl, ((((HT9.out.1.1.setCell (p := ⟨w.heap.size, 0, none⟩) (Nat.le_refl _) _).setCell (p := ⟨w.heap.size, 1, none⟩) (Nat.le_refl _) _).setCell (p := ⟨w.heap.size, 2, none⟩) (Nat.le_refl _) _).setCell (p := ⟨w.heap.size, 3, none⟩) (Nat.le_refl _) _)⟩
set_option maxHeartbeats 8000000 in
theorem implDecI_ok (b off n cap : Nat) (zs : List Int) (w : World) (hn : zs.length = n) (ha : Arr w (some ⟨b, off, none⟩) zs) (hm : n ≤ 1048576) (hcap : n ≤ cap) (h0 : 8 ≤ n) (h1 : n ≤ 65008) (hs : csum zs = 0) (y0 : Int) (hy0 : tnum ((zs.drop 0).take 1) = y0) (y1 : Int) (hy1 : tnum ((zs.drop 1).take 1) = y1) (y2 : Int) (hy2 : tnum ((zs.drop 4).take 4) = y2) (L : List Int) (hyL : (zs.drop 8).take (n - 8) = L) :
    Calls Tryd.prog 12 #[.slice (some ⟨b, off, none⟩) n cap] w fun e w' => ∃ v0 : Value, e = .returned (.tuple #[.agg #[.int .i64 y0, .int .i64 y1, .int .i64 y2, v0], .int .i64 0]) ∧ OwnB w' w.heap.size v0 L ∧ Below w.heap.size w w' := by
  have HS0 := hide (DS0.start w #[.int .i64 0, .int .i64 0, .int .i64 0, .slice none 0 0] 32 (.slice (some ⟨b, off, none⟩) n cap))
  have HA := hide ha
  have HN := hide hn
  have HY0 := hide hy0
  have HY1 := hide hy1
  have HY2 := hide hy2
  have HYL := hide hyL
  clear hy0 hy1 hy2 hyL
  obtain ⟨_, _, e0, hbl, _⟩ := ha.2 0 (by omega)
  cases e0
  have hbne : b ≠ w.heap.size + 1 := by omega
  have hd1 : decide ((8 : Int) ≤ (n : Int)) = true := decide_eq_true (by omega)
  have hd2 : decide ((n : Int) ≤ 65008) = true := decide_eq_true (by omega)
  have hd3 : (csum zs == 0) = true := by rw [hs]; rfl
  clear ha hn
  go_enter Tryd.func12, Tryd.ntmps12
  go_wp2_with fail
  generalize hW : (w.alloc (.cells #[.int .i64 0, .int .i64 0, .int .i64 0, .slice none 0 0] 32)).alloc (.cells #[.slice (some ⟨b, off, none⟩) n cap, .int .i64 0, .nilIface] 51) = W0 at *
  clear hW
  refine (demand_yes (w.heap.size + 1) 0 (.slice (some ⟨b, off, none⟩) n cap) _ _ HS0.out.2.2).mono ?_
  rintro e w' ⟨rfl, hw⟩
  rw [hw]
  clear hw
  go_wp2_with fail
  refine (demand_yes (w.heap.size + 1) 0 (.slice (some ⟨b, off, none⟩) n cap) _ _ HS0.out.2.2).mono ?_
  rintro e w' ⟨rfl, hw⟩
  rw [hw]
  clear hw
  go_wp2_with fail
  have hk := checksum_walk (some ⟨b, off, none⟩) n cap zs W0 HN.out (HA.out.below HS0.out.1 (Nat.le_refl _)) hm
  have CK : Hid (Calls Tryd.prog 30 #[.slice (some ⟨b, off, none⟩) n cap] W0 fun e w' => e = .returned (.int .i64 (csum zs)) ∧ Below W0.heap.size W0 w') := hide (hk.mono (by rintro e w' ⟨rfl, hb, _⟩; refine ⟨?_, hb⟩; unfold csum; rw [HN.out]))
  clear hk
  refine CK.out.mono ?_
  rintro e W1 ⟨rfl, hb⟩
  have HS1 := hide (HS0.out.next hb)
  clear CK hb HS0
  go_wp2_with fail
  refine (demand_yes (w.heap.size + 1) 0 (.slice (some ⟨b, off, none⟩) n cap) _ _ HS1.out.2.2).mono ?_
  rintro e w' ⟨rfl, hw⟩
  rw [hw]
  clear hw
  have HT0 := hide (DS1.start HS1.out #[.int .i64 0, .int .i64 0, .int .i64 0, .slice none 0 0] 32)
  have hF : w.heap.size + 1 < W1.heap.size := HS1.out.2.2.lt
  clear HS1
  go_wp2_with fail
  generalize hV : W1.alloc (.cells #[.int .i64 0, .int .i64 0, .int .i64 0, .slice none 0 0] 32) = V0 at *
  clear hV
  generalize W1.heap.size = F at *
  have ct := tk1 (w.heap.size + 1) (0) n cap b off zs V0 HT0.out.1.2.2 hm (by omega) hcap HN.out (HA.out.below HT0.out.1.1 (Nat.le_refl _)) hbne
  rw [HY0.out] at ct
  have C := hide ct
  clear ct
  refine C.out.mono ?_
  rintro e V1 ⟨rfl, hc, hg⟩
  have HT1 : Hid (DS1 w V1 #[.int .i64 0, .int .i64 0, .int .i64 0, .slice none 0 0] 32 (.slice (some ⟨b, off, none⟩) n cap) (1) .nilIface F #[.int .i64 0, .int .i64 0, .int .i64 0, .slice none 0 0] 32) := hide (HT0.out.moved hg hc)
  clear C hc hg HT0
  have k0 := HT1.out.2.1.cell 0 _ rfl
  have fz := HT1.out.2.1.frozen
  have HT2 : Hid (DS1 w (V1.setCell ⟨F, 0, none⟩ (.int .i64 y0)) #[.int .i64 0, .int .i64 0, .int .i64 0, .slice none 0 0] 32 (.slice (some ⟨b, off, none⟩) n cap) (1) .nilIface F #[.int .i64 y0, .int .i64 0, .int .i64 0, .slice none 0 0] 32) := hide (HT1.out.set 0 (.int .i64 y0))
  go_wp2_with fail
  generalize V1.setCell ⟨F, 0, none⟩ (.int .i64 y0) = V2 at *
  clear k0 fz HT1
  have ct := tk1 (w.heap.size + 1) (1) n cap b off zs V2 HT2.out.1.2.2 hm (by omega) hcap HN.out (HA.out.below HT2.out.1.1 (Nat.le_refl _)) hbne
  rw [HY1.out] at ct
  have C := hide ct
  clear ct
  refine C.out.mono ?_
  rintro e V3 ⟨rfl, hc, hg⟩
  have HT3 : Hid (DS1 w V3 #[.int .i64 0, .int .i64 0, .int .i64 0, .slice none 0 0] 32 (.slice (some ⟨b, off, none⟩) n cap) (2) .nilIface F #[.int .i64 y0, .int .i64 0, .int .i64 0, .slice none 0 0] 32) := hide (HT2.out.moved hg hc)
  clear C hc hg HT2
  have k0 := HT3.out.2.1.cell 1 _ rfl
  have fz := HT3.out.2.1.frozen
  have HT4 : Hid (DS1 w (V3.setCell ⟨F, 1, none⟩ (.int .i64 y1)) #[.int .i64 0, .int .i64 0, .int .i64 0, .slice none 0 0] 32 (.slice (some ⟨b, off, none⟩) n cap) (2) .nilIface F #[.int .i64 y0, .int .i64 y1, .int .i64 0, .slice none 0 0] 32) := hide (HT3.out.set 1 (.int .i64 y1))
  go_wp2_with fail
  generalize V3.setCell ⟨F, 1, none⟩ (.int .i64 y1) = V4 at *
  clear k0 fz HT3
  have C := hide (ps2 (w.heap.size + 1) (2) n cap b off V4 HT4.out.1.2.2 hm (by omega) hcap)
  refine C.out.mono ?_
  rintro e V5 ⟨rfl, hc, hg⟩
  have HT5 : Hid (DS1 w V5 #[.int .i64 0, .int .i64 0, .int .i64 0, .slice none 0 0] 32 (.slice (some ⟨b, off, none⟩) n cap) (4) .nilIface F #[.int .i64 y0, .int .i64 y1, .int .i64 0, .slice none 0 0] 32) := hide (HT4.out.moved hg hc)
  clear C hc hg HT4
  go_wp2_with fail
  have ct := tk4 (w.heap.size + 1) (4) n cap b off zs V5 HT5.out.1.2.2 hm (by omega) hcap HN.out (HA.out.below HT5.out.1.1 (Nat.le_refl _)) hbne
  rw [HY2.out] at ct
  have C := hide ct
  clear ct
  refine C.out.mono ?_
  rintro e V6 ⟨rfl, hc, hg⟩
  have HT6 : Hid (DS1 w V6 #[.int .i64 0, .int .i64 0, .int .i64 0, .slice none 0 0] 32 (.slice (some ⟨b, off, none⟩) n cap) (8) .nilIface F #[.int .i64 y0, .int .i64 y1, .int .i64 0, .slice none 0 0] 32) := hide (HT5.out.moved hg hc)
  clear C hc hg HT5
  have k0 := HT6.out.2.1.cell 2 _ rfl
  have fz := HT6.out.2.1.frozen
  have HT7 : Hid (DS1 w (V6.setCell ⟨F, 2, none⟩ (.int .i64 y2)) #[.int .i64 0, .int .i64 0, .int .i64 0, .slice none 0 0] 32 (.slice (some ⟨b, off, none⟩) n cap) (8) .nilIface F #[.int .i64 y0, .int .i64 y1, .int .i64 y2, .slice none 0 0] 32) := hide (HT6.out.set 2 (.int .i64 y2))
  go_wp2_with fail
  generalize V6.setCell ⟨F, 2, none⟩ (.int .i64 y2) = V7 at *
  clear k0 fz HT6
  refine (left_walk (w.heap.size + 1) 8 n cap _ _ _ HT7.out.1.2.2 (by omega) (by omega)).mono ?_
  rintro e w' ⟨rfl, mm, rfl⟩
  have HT8 : Hid (DS1 w (V7.drewN mm) #[.int .i64 0, .int .i64 0, .int .i64 0, .slice none 0 0] 32 (.slice (some ⟨b, off, none⟩) n cap) (8) .nilIface F #[.int .i64 y0, .int .i64 y1, .int .i64 y2, .slice none 0 0] 32) := hide (HT7.out.drewN mm)
  generalize V7.drewN mm = V8 at *
  clear HT7
  go_wp2_with fail
  have hFl := HT8.out.2.1.lt
  have C := hide (takeBytes_any (w.heap.size + 1) (8) n cap b off (n - 8) zs V8 HT8.out.1.2.2 hm (by omega) hcap HN.out (HA.out.below HT8.out.1.1 (Nat.le_refl _)) hbne)
  rw [show ((n : Int) - 8) = ((n - 8 : Nat) : Int) by omega]
  refine C.out.mono ?_
  rintro e V9 ⟨vb, rfl, hO, hc, hg⟩
  have HT9 : Hid (DS1 w V9 #[.int .i64 0, .int .i64 0, .int .i64 0, .slice none 0 0] 32 (.slice (some ⟨b, off, none⟩) n cap) (8 + (n - 8)) .nilIface F #[.int .i64 y0, .int .i64 y1, .int .i64 y2, .slice none 0 0] 32) := hide (HT8.out.moved hg hc)
  rw [HYL.out] at hO
  have HO := hide (hO.mono (show F + 1 ≤ V8.heap.size from hFl))
  obtain ⟨ab, lb, cb, eb⟩ : ∃ (x : Option Addr) (y z : Nat), vb = .slice x y z := by obtain ⟨x, z, e, _⟩ := own_slice HO.out; exact ⟨x, _, z, e⟩
  subst eb
  clear C hc hg hO hFl HT8
  have k0 := HT9.out.2.1.cell 3 _ rfl
  have fz := HT9.out.2.1.frozen
  have HT10 : Hid (DS1 w (V9.setCell ⟨F, 3, none⟩ (.slice ab lb cb)) #[.int .i64 0, .int .i64 0, .int .i64 0, .slice none 0 0] 32 (.slice (some ⟨b, off, none⟩) n cap) (8 + (n - 8)) .nilIface F #[.int .i64 y0, .int .i64 y1, .int .i64 y2, .slice ab lb cb] 32) := hide (HT9.out.set 3 (.slice ab lb cb))
  have HO2 := hide ((HO.out.setBelow (a := ⟨F, 3, none⟩) (Nat.lt_succ_self _) (.slice ab lb cb)).mono (show w.heap.size + 1 ≤ F + 1 by omega))
  go_wp2_with fail
  generalize V9.setCell ⟨F, 3, none⟩ (.slice ab lb cb) = V10 at *
  clear k0 fz HT9 HO
  have HTD := hide (HT10.out.drew)
  have HOD := hide (HO2.out.drew)
  have CA := hide (ansIcmp_nil (y0) (y1) (y2) ab lb cb V10.drew)
  have HK : Hid (V10.drew.cell? ⟨F, 0, none⟩ = some (.int .i64 y0) ∧ V10.drew.cell? ⟨F, 1, none⟩ = some (.int .i64 y1) ∧ V10.drew.cell? ⟨F, 2, none⟩ = some (.int .i64 y2) ∧ V10.drew.cell? ⟨F, 3, none⟩ = some (.slice ab lb cb) ∧ V10.drew.cell? ⟨w.heap.size + 1, 2, none⟩ = some .nilIface) := hide ⟨HTD.out.2.1.cell 0 _ rfl, HTD.out.2.1.cell 1 _ rfl, HTD.out.2.1.cell 2 _ rfl, HTD.out.2.1.cell 3 _ rfl, HTD.out.1.2.2.cells.2.2.1⟩
  have hRF : w.heap.size ≠ F := by omega
  have hRC : w.heap.size ≠ w.heap.size + 1 := by omega
  clear HT10 HO2
  go_region_held3 (fun w' => w'.cell? ⟨F, 0, none⟩ = some (.int .i64 y0) ∧ w'.cell? ⟨F, 1, none⟩ = some (.int .i64 y1) ∧ w'.cell? ⟨F, 2, none⟩ = some (.int .i64 y2) ∧ w'.cell? ⟨F, 3, none⟩ = some (.slice ab lb cb) ∧ w'.cell? ⟨w.heap.size + 1, 2, none⟩ = some .nilIface) (first | with_reducible assumption | with_reducible exact HK.out | exact ⟨far4 hRF hk9.1, far4 hRF hk9.2.1, far4 hRF hk9.2.2.1, far4 hRF hk9.2.2.2.1, far4 hRC hk9.2.2.2.2⟩)
    ((go_at_call 34; refine CA.out.mono ?_; rintro e w8 ⟨rfl, hb8⟩; have hk9 : w8.cell? ⟨F, 0, none⟩ = some (.int .i64 y0) ∧ w8.cell? ⟨F, 1, none⟩ = some (.int .i64 y1) ∧ w8.cell? ⟨F, 2, none⟩ = some (.int .i64 y2) ∧ w8.cell? ⟨F, 3, none⟩ = some (.slice ab lb cb) ∧ w8.cell? ⟨w.heap.size + 1, 2, none⟩ = some .nilIface := ⟨(HTD.out.next hb8).2.1.cell 0 _ rfl, (HTD.out.next hb8).2.1.cell 1 _ rfl, (HTD.out.next hb8).2.1.cell 2 _ rfl, (HTD.out.next hb8).2.1.cell 3 _ rfl, (HTD.out.next hb8).1.2.2.cells.2.2.1⟩; have d0 := (HTD.out.next hb8).1.2.1.cell 0 _ rfl; have d1 := (HTD.out.next hb8).1.2.1.cell 1 _ rfl; have d2 := (HTD.out.next hb8).1.2.1.cell 2 _ rfl; have d3 := (HTD.out.next hb8).1.2.1.cell 3 _ rfl; have fz := (HTD.out.next hb8).1.2.1.frozen))
  all_goals
    have HT9 := hide (HTD.out.next hb8)
    have HO9 := hide (HOD.out.next hb8)
    clear hb8 HTD CA HK hk9
    go_wp2_with fail
    exact bodyPost_ret (v := .tuple #[.agg #[.int .i64 y0, .int .i64 y1, .int .i64 y2, .slice ab lb cb], .int .i64 0]) (by simp [results, Tryd.results12, go_sem, d0, d1, d2, d3]) rfl ⟨_, rfl, ((((HO9.out.setBelow (a := ⟨w.heap.size, 0, none⟩) (Nat.lt_succ_self _) _).setBelow (a := ⟨w.heap.size, 1, none⟩) (Nat.lt_succ_self _) _).setBelow (a := ⟨w.heap.size, 2, none⟩) (Nat.lt_succ_self _) _).setBelow (a := ⟨w.heap.size, 3, none⟩) (Nat.lt_succ_self _) _).mono (Nat.le_succ _), ((((HT9.out.1.1.setCell (p := ⟨w.heap.size, 0, none⟩) (Nat.le_refl _) _).setCell (p := ⟨w.heap.size, 1, none⟩) (Nat.le_refl _) _).setCell (p := ⟨w.heap.size, 2, none⟩) (Nat.le_refl _) _).setCell (p := ⟨w.heap.size, 3, none⟩) (Nat.le_refl _) _)⟩
end Go.Proofs.YtakoagfeiolkjaaDoor
