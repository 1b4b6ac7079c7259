/-
Contracts of functions of this seat.
-/
import Derived.Test.YtcnfnimgpiaamaaDoorRows
import Derived.WalkKit
import Derived.ProofKit
import Derived.OpenShut
import Derived.Test.YtcnfnimgpiaamaaDoorSdp
namespace Go.Proofs.YtcnfnimgpiaamaaDoor
open Go.ChangeShapes Go.WideShapes Go.ChangeAt Go.RowKit
set_option linter.unusedVariables false
set_option maxRecDepth 100000
set_option maxHeartbeats 16000000 in
theorem implDecS_f1 (a : Option Addr) (n cap : Nat) (s d : Int) (zs : List Int) (w : World) (hn : zs.length = n) (ha : Arr w a zs) (hm : n ≤ 1048576) (hcap : n ≤ cap) (he : ErrT w) (h0 : adrB s = false) :
    Calls Tryd.prog 14 #[.slice a n cap, .int .i64 s, .int .i64 d] w fun e w' => e = .returned (.tuple #[.agg #[.int .i64 0, .int .i64 0, .int .i64 0, .int .i64 0, .int .i64 0, .int .i64 0, .int .i64 0, .bool false, .int .i64 0, .bool false, .slice none 0 0, .slice none 0 0], .int .i64 1]) ∧ Below w.heap.size w w' := by
  have HS0 := hide (DS0.start w #[.int .i64 0, .int .i64 0, .int .i64 0, .int .i64 0, .int .i64 0, .int .i64 0, .int .i64 0, .bool false, .int .i64 0, .bool false, .slice none 0 0, .slice none 0 0] 31 (.slice a n cap))
  have HA := hide ha
  have HN := hide hn
  have hm2 : n ≤ 1048576 := by omega
  have HE := hide he
  clear he
  have e063 : bits .and .i64 0 63 = 0 := (and_63_i64 0 (by omega) (by omega)).trans (by decide)
  clear ha hn
  go_enter Tryd.func14, Tryd.ntmps14
  go_wp2_with (first | (go_at_call 42; refine (isAddr_walk _ _).mono ?_; rintro e w' ⟨rfl, rfl⟩))
  generalize hW : (w.alloc (.cells #[.int .i64 0, .int .i64 0, .int .i64 0, .int .i64 0, .int .i64 0, .int .i64 0, .int .i64 0, .bool false, .int .i64 0, .bool false, .slice none 0 0, .slice none 0 0] 31)).alloc (.cells #[.slice a n cap, .int .i64 0, .nilIface] 69) = W0 at *
  clear hW
  refine (demand_no (w.heap.size + 1) (0) (.slice a n cap) _ _ HS0.out.2.2).mono ?_
  rintro e X1 ⟨rfl, hc, hg⟩
  have HS1 := hide (HS0.out.moved hg hc)
  clear hc hg HS0
  go_wp2_with fail
  refine (demand_err (w.heap.size + 1) (0) (.slice a n cap) 1 _ _ _ HS1.out.2.2).mono ?_
  rintro e w' ⟨rfl, hw⟩
  rw [hw]
  clear hw
  go_wp2_with fail
  refine (demand_err (w.heap.size + 1) (0) (.slice a n cap) 1 _ _ _ HS1.out.2.2).mono ?_
  rintro e w' ⟨rfl, hw⟩
  rw [hw]
  clear hw
  have HT2 := hide (DS1.start HS1.out #[.int .i64 0, .int .i64 0, .int .i64 0, .int .i64 0, .int .i64 0, .int .i64 0, .int .i64 0, .bool false, .int .i64 0, .bool false, .slice none 0 0, .slice none 0 0] 31)
  have hF : w.heap.size + 1 < X1.heap.size := HS1.out.2.2.lt
  clear HS1
  go_wp2_with fail
  generalize hV : X1.alloc (.cells #[.int .i64 0, .int .i64 0, .int .i64 0, .int .i64 0, .int .i64 0, .int .i64 0, .int .i64 0, .bool false, .int .i64 0, .bool false, .slice none 0 0, .slice none 0 0] 31) = X2 at *
  clear hV
  generalize X1.heap.size = F at *
  refine (take_err (w.heap.size + 1) (0) n cap _ 1 2 _ HT2.out.1.2.2 (by omega) (by omega) (by omega) (by omega)).mono ?_
  rintro e w' ⟨rfl, mm, rfl⟩
  have HT3 : Hid (DS1 w (X2.drewN mm) #[.int .i64 0, .int .i64 0, .int .i64 0, .int .i64 0, .int .i64 0, .int .i64 0, .int .i64 0, .bool false, .int .i64 0, .bool false, .slice none 0 0, .slice none 0 0] 31 (.slice a n cap) (0) (wErr 1) F #[.int .i64 0, .int .i64 0, .int .i64 0, .int .i64 0, .int .i64 0, .int .i64 0, .int .i64 0, .bool false, .int .i64 0, .bool false, .slice none 0 0, .slice none 0 0] 31) := hide (HT2.out.drewN mm)
  generalize X2.drewN mm = X3 at *
  clear HT2
  have k0 := HT3.out.2.1.cell 0 _ rfl
  have fz := HT3.out.2.1.frozen
  have HT4 : Hid (DS1 w (X3.setCell ⟨F, 0, none⟩ (.int .i64 0)) #[.int .i64 0, .int .i64 0, .int .i64 0, .int .i64 0, .int .i64 0, .int .i64 0, .int .i64 0, .bool false, .int .i64 0, .bool false, .slice none 0 0, .slice none 0 0] 31 (.slice a n cap) (0) (wErr 1) F #[.int .i64 0, .int .i64 0, .int .i64 0, .int .i64 0, .int .i64 0, .int .i64 0, .int .i64 0, .bool false, .int .i64 0, .bool false, .slice none 0 0, .slice none 0 0] 31) := hide (HT3.out.set 0 (.int .i64 0))
  go_wp2_with fail
  generalize X3.setCell ⟨F, 0, none⟩ (.int .i64 0) = X4 at *
  clear k0 fz HT3
  refine (take_err (w.heap.size + 1) (0) n cap _ 1 2 _ HT4.out.1.2.2 (by omega) (by omega) (by omega) (by omega)).mono ?_
  rintro e w' ⟨rfl, mm, rfl⟩
  have HT5 : Hid (DS1 w (X4.drewN mm) #[.int .i64 0, .int .i64 0, .int .i64 0, .int .i64 0, .int .i64 0, .int .i64 0, .int .i64 0, .bool false, .int .i64 0, .bool false, .slice none 0 0, .slice none 0 0] 31 (.slice a n cap) (0) (wErr 1) F #[.int .i64 0, .int .i64 0, .int .i64 0, .int .i64 0, .int .i64 0, .int .i64 0, .int .i64 0, .bool false, .int .i64 0, .bool false, .slice none 0 0, .slice none 0 0] 31) := hide (HT4.out.drewN mm)
  generalize X4.drewN mm = X5 at *
  clear HT4
  have k0 := HT5.out.2.1.cell 1 _ rfl
  have fz := HT5.out.2.1.frozen
  have HT6 : Hid (DS1 w (X5.setCell ⟨F, 1, none⟩ (.int .i64 0)) #[.int .i64 0, .int .i64 0, .int .i64 0, .int .i64 0, .int .i64 0, .int .i64 0, .int .i64 0, .bool false, .int .i64 0, .bool false, .slice none 0 0, .slice none 0 0] 31 (.slice a n cap) (0) (wErr 1) F #[.int .i64 0, .int .i64 0, .int .i64 0, .int .i64 0, .int .i64 0, .int .i64 0, .int .i64 0, .bool false, .int .i64 0, .bool false, .slice none 0 0, .slice none 0 0] 31) := hide (HT5.out.set 1 (.int .i64 0))
  go_wp2_with fail
  generalize X5.setCell ⟨F, 1, none⟩ (.int .i64 0) = X6 at *
  clear k0 fz HT5
  refine (take_err (w.heap.size + 1) (0) n cap _ 1 4 _ HT6.out.1.2.2 (by omega) (by omega) (by omega) (by omega)).mono ?_
  rintro e w' ⟨rfl, mm, rfl⟩
  have HT7 : Hid (DS1 w (X6.drewN mm) #[.int .i64 0, .int .i64 0, .int .i64 0, .int .i64 0, .int .i64 0, .int .i64 0, .int .i64 0, .bool false, .int .i64 0, .bool false, .slice none 0 0, .slice none 0 0] 31 (.slice a n cap) (0) (wErr 1) F #[.int .i64 0, .int .i64 0, .int .i64 0, .int .i64 0, .int .i64 0, .int .i64 0, .int .i64 0, .bool false, .int .i64 0, .bool false, .slice none 0 0, .slice none 0 0] 31) := hide (HT6.out.drewN mm)
  generalize X6.drewN mm = X7 at *
  clear HT6
  have k0 := HT7.out.2.1.cell 2 _ rfl
  have fz := HT7.out.2.1.frozen
  have HT8 : Hid (DS1 w (X7.setCell ⟨F, 2, none⟩ (.int .i64 0)) #[.int .i64 0, .int .i64 0, .int .i64 0, .int .i64 0, .int .i64 0, .int .i64 0, .int .i64 0, .bool false, .int .i64 0, .bool false, .slice none 0 0, .slice none 0 0] 31 (.slice a n cap) (0) (wErr 1) F #[.int .i64 0, .int .i64 0, .int .i64 0, .int .i64 0, .int .i64 0, .int .i64 0, .int .i64 0, .bool false, .int .i64 0, .bool false, .slice none 0 0, .slice none 0 0] 31) := hide (HT7.out.set 2 (.int .i64 0))
  go_wp2_with fail
  generalize X7.setCell ⟨F, 2, none⟩ (.int .i64 0) = X8 at *
  clear k0 fz HT7
  refine (take_err (w.heap.size + 1) (0) n cap _ 1 4 _ HT8.out.1.2.2 (by omega) (by omega) (by omega) (by omega)).mono ?_
  rintro e w' ⟨rfl, mm, rfl⟩
  have HT9 : Hid (DS1 w (X8.drewN mm) #[.int .i64 0, .int .i64 0, .int .i64 0, .int .i64 0, .int .i64 0, .int .i64 0, .int .i64 0, .bool false, .int .i64 0, .bool false, .slice none 0 0, .slice none 0 0] 31 (.slice a n cap) (0) (wErr 1) F #[.int .i64 0, .int .i64 0, .int .i64 0, .int .i64 0, .int .i64 0, .int .i64 0, .int .i64 0, .bool false, .int .i64 0, .bool false, .slice none 0 0, .slice none 0 0] 31) := hide (HT8.out.drewN mm)
  generalize X8.drewN mm = X9 at *
  clear HT8
  have k0 := HT9.out.2.1.cell 3 _ rfl
  have fz := HT9.out.2.1.frozen
  have HT10 : Hid (DS1 w (X9.setCell ⟨F, 3, none⟩ (.int .i64 0)) #[.int .i64 0, .int .i64 0, .int .i64 0, .int .i64 0, .int .i64 0, .int .i64 0, .int .i64 0, .bool false, .int .i64 0, .bool false, .slice none 0 0, .slice none 0 0] 31 (.slice a n cap) (0) (wErr 1) F #[.int .i64 0, .int .i64 0, .int .i64 0, .int .i64 0, .int .i64 0, .int .i64 0, .int .i64 0, .bool false, .int .i64 0, .bool false, .slice none 0 0, .slice none 0 0] 31) := hide (HT9.out.set 3 (.int .i64 0))
  go_wp2_with fail
  generalize X9.setCell ⟨F, 3, none⟩ (.int .i64 0) = X10 at *
  clear k0 fz HT9
  refine (take_err (w.heap.size + 1) (0) n cap _ 1 1 _ HT10.out.1.2.2 (by omega) (by omega) (by omega) (by omega)).mono ?_
  rintro e w' ⟨rfl, mm, rfl⟩
  have HT11 : Hid (DS1 w (X10.drewN mm) #[.int .i64 0, .int .i64 0, .int .i64 0, .int .i64 0, .int .i64 0, .int .i64 0, .int .i64 0, .bool false, .int .i64 0, .bool false, .slice none 0 0, .slice none 0 0] 31 (.slice a n cap) (0) (wErr 1) F #[.int .i64 0, .int .i64 0, .int .i64 0, .int .i64 0, .int .i64 0, .int .i64 0, .int .i64 0, .bool false, .int .i64 0, .bool false, .slice none 0 0, .slice none 0 0] 31) := hide (HT10.out.drewN mm)
  generalize X10.drewN mm = X11 at *
  clear HT10
  go_wp2_with fail
  refine (demand_err (w.heap.size + 1) (0) (.slice a n cap) 1 _ _ _ HT11.out.1.2.2).mono ?_
  rintro e w' ⟨rfl, hw⟩
  rw [hw]
  clear hw
  go_wp2_with fail
  have cc := sumFH_walk a n cap s d 6 zs X11 HN.out (HA.out.below HT11.out.1.1 (Nat.le_refl _)) hm2
  generalize fsum s d 6 zs = fsv at cc
  have CC := hide cc
  clear cc
  refine CC.out.mono ?_
  rintro e X12 ⟨rfl, hb⟩
  have HT12 := hide (HT11.out.next hb)
  clear CC hb HT11
  go_wp2_with fail
  refine (demand_err (w.heap.size + 1) (0) (.slice a n cap) 1 _ _ _ HT12.out.1.2.2).mono ?_
  rintro e w' ⟨rfl, hw⟩
  rw [hw]
  clear hw
  go_wp2_with fail
  refine (take_err (w.heap.size + 1) (0) n cap _ 1 1 _ HT12.out.1.2.2 (by omega) (by omega) (by omega) (by omega)).mono ?_
  rintro e w' ⟨rfl, mm, rfl⟩
  have HT13 : Hid (DS1 w (X12.drewN mm) #[.int .i64 0, .int .i64 0, .int .i64 0, .int .i64 0, .int .i64 0, .int .i64 0, .int .i64 0, .bool false, .int .i64 0, .bool false, .slice none 0 0, .slice none 0 0] 31 (.slice a n cap) (0) (wErr 1) F #[.int .i64 0, .int .i64 0, .int .i64 0, .int .i64 0, .int .i64 0, .int .i64 0, .int .i64 0, .bool false, .int .i64 0, .bool false, .slice none 0 0, .slice none 0 0] 31) := hide (HT12.out.drewN mm)
  generalize X12.drewN mm = X13 at *
  clear HT12
  have k0 := HT13.out.2.1.cell 4 _ rfl
  have fz := HT13.out.2.1.frozen
  have HT14 : Hid (DS1 w (X13.setCell ⟨F, 4, none⟩ (.int .i64 0)) #[.int .i64 0, .int .i64 0, .int .i64 0, .int .i64 0, .int .i64 0, .int .i64 0, .int .i64 0, .bool false, .int .i64 0, .bool false, .slice none 0 0, .slice none 0 0] 31 (.slice a n cap) (0) (wErr 1) F #[.int .i64 0, .int .i64 0, .int .i64 0, .int .i64 0, .int .i64 0, .int .i64 0, .int .i64 0, .bool false, .int .i64 0, .bool false, .slice none 0 0, .slice none 0 0] 31) := hide (HT13.out.set 4 (.int .i64 0))
  go_wp2_with fail
  generalize X13.setCell ⟨F, 4, none⟩ (.int .i64 0) = X14 at *
  clear k0 fz HT13
  refine (take_err (w.heap.size + 1) (0) n cap _ 1 2 _ HT14.out.1.2.2 (by omega) (by omega) (by omega) (by omega)).mono ?_
  rintro e w' ⟨rfl, mm, rfl⟩
  have HT15 : Hid (DS1 w (X14.drewN mm) #[.int .i64 0, .int .i64 0, .int .i64 0, .int .i64 0, .int .i64 0, .int .i64 0, .int .i64 0, .bool false, .int .i64 0, .bool false, .slice none 0 0, .slice none 0 0] 31 (.slice a n cap) (0) (wErr 1) F #[.int .i64 0, .int .i64 0, .int .i64 0, .int .i64 0, .int .i64 0, .int .i64 0, .int .i64 0, .bool false, .int .i64 0, .bool false, .slice none 0 0, .slice none 0 0] 31) := hide (HT14.out.drewN mm)
  generalize X14.drewN mm = X15 at *
  clear HT14
  have k0 := HT15.out.2.1.cell 5 _ rfl
  have fz := HT15.out.2.1.frozen
  have HT16 : Hid (DS1 w (X15.setCell ⟨F, 5, none⟩ (.int .i64 0)) #[.int .i64 0, .int .i64 0, .int .i64 0, .int .i64 0, .int .i64 0, .int .i64 0, .int .i64 0, .bool false, .int .i64 0, .bool false, .slice none 0 0, .slice none 0 0] 31 (.slice a n cap) (0) (wErr 1) F #[.int .i64 0, .int .i64 0, .int .i64 0, .int .i64 0, .int .i64 0, .int .i64 0, .int .i64 0, .bool false, .int .i64 0, .bool false, .slice none 0 0, .slice none 0 0] 31) := hide (HT15.out.set 5 (.int .i64 0))
  go_wp2_with fail
  generalize X15.setCell ⟨F, 5, none⟩ (.int .i64 0) = X16 at *
  clear k0 fz HT15
  refine (pass_err (w.heap.size + 1) (0) n cap _ 1 (4) _ HT16.out.1.2.2 (by omega) (by omega) (by omega) (by omega)).mono ?_
  rintro e w' ⟨rfl, mm, rfl⟩
  have HT17 : Hid (DS1 w (X16.drewN mm) #[.int .i64 0, .int .i64 0, .int .i64 0, .int .i64 0, .int .i64 0, .int .i64 0, .int .i64 0, .bool false, .int .i64 0, .bool false, .slice none 0 0, .slice none 0 0] 31 (.slice a n cap) (0) (wErr 1) F #[.int .i64 0, .int .i64 0, .int .i64 0, .int .i64 0, .int .i64 0, .int .i64 0, .int .i64 0, .bool false, .int .i64 0, .bool false, .slice none 0 0, .slice none 0 0] 31) := hide (HT16.out.drewN mm)
  generalize X16.drewN mm = X17 at *
  clear HT16
  go_wp2_with fail
  refine (pass_err (w.heap.size + 1) (0) n cap _ 1 (-20) _ HT17.out.1.2.2 (by omega) (by omega) (by omega) (by omega)).mono ?_
  rintro e w' ⟨rfl, mm, rfl⟩
  have HT18 : Hid (DS1 w (X17.drewN mm) #[.int .i64 0, .int .i64 0, .int .i64 0, .int .i64 0, .int .i64 0, .int .i64 0, .int .i64 0, .bool false, .int .i64 0, .bool false, .slice none 0 0, .slice none 0 0] 31 (.slice a n cap) (0) (wErr 1) F #[.int .i64 0, .int .i64 0, .int .i64 0, .int .i64 0, .int .i64 0, .int .i64 0, .int .i64 0, .bool false, .int .i64 0, .bool false, .slice none 0 0, .slice none 0 0] 31) := hide (HT17.out.drewN mm)
  generalize X17.drewN mm = X18 at *
  clear HT17
  have HT19 := hide (HT18.out.next ((Below.refl X18.heap.size X18).alloc (Nat.le_refl _) (.cells #[.slice none 0 0, .int .i64 0, .nilIface] 69)))
  have HG : Hid (Cur (X18.alloc (.cells #[.slice none 0 0, .int .i64 0, .nilIface] 69)) X18.heap.size (.slice none 0 0) 0 .nilIface) := hide (heap_alloc_new _ _)
  have hFG : F < X18.heap.size := HT18.out.2.1.lt
  have hws : w.heap.size ≤ (X18.alloc (.cells #[.slice none 0 0, .int .i64 0, .nilIface] 69)).heap.size := HT19.out.1.1.size
  clear HT18
  go_wp2_with fail
  generalize X18.alloc (.cells #[.slice none 0 0, .int .i64 0, .nilIface] 69) = X19 at *
  generalize X18.heap.size = G at *
  refine (takeOpts_walk G F w.heap.size 0 0 none [] (0) (0) (0) (0) (0) (0) ⟨0, false, 0, false, []⟩ (.slice none 0 0) (.slice none 0 0) 0 X19 HG.out HT19.out.2.1 (OwnI.nil _ _ _ _) hws rfl (by omega) (by omega) ⟨by simp, fun j hj => by simp at hj⟩ (by omega) (fun h => absurd h (by omega))).mono ?_
  rintro e X20 ⟨rfl, qo, evo, st, vo, ro, hts, hres⟩
  obtain ⟨aa, na, ca, rfl⟩ : ∃ (aa : Option Addr) (na ca : Nat), vo = .slice aa na ca := by
    rcases hts.2.2.2.form with ⟨h, _⟩ | ⟨_, _, _, h, _⟩ <;> exact ⟨_, _, _, h⟩
  have HT20 := hide (DS1.opts (vs' := #[.int .i64 0, .int .i64 0, .int .i64 0, .int .i64 0, .int .i64 0, .int .i64 0, .int .i64 st.m, .bool st.hs, .int .i64 st.sc, .bool st.so, .slice aa na ca, .slice none 0 0]) HT19.out hts.1 (by omega) hts.2.2.1)
  have HO20 := hide hts.2.2.2
  have HQ := hide hts.2.1
  have HRS := hide hres
  clear hts hres HG HT19
  obtain rfl : evo = .nilIface := by
    rcases HRS.out with ⟨_, h2⟩ | ⟨h1, _⟩
    · exact h2
    · rw [rdO_end (.inl rfl)] at h1; cases h1
  obtain ⟨e0, e1, e2, ef⟩ := HQ.out.cells
  clear HRS
  go_wp2_with fail
  clear e0 e1 e2 ef HQ
  refine (demand_err (w.heap.size + 1) (0) (.slice a n cap) 1 _ _ _ HT20.out.1.2.2).mono ?_
  rintro e w' ⟨rfl, hw⟩
  rw [hw]
  clear hw
  go_wp2_with fail
  refine (left_walk (w.heap.size + 1) (0) n cap _ _ _ HT20.out.1.2.2 (by omega) (by omega)).mono ?_
  rintro e w' ⟨rfl, mm, rfl⟩
  have HT21 : Hid (DS1 w (X20.drewN mm) #[.int .i64 0, .int .i64 0, .int .i64 0, .int .i64 0, .int .i64 0, .int .i64 0, .int .i64 0, .bool false, .int .i64 0, .bool false, .slice none 0 0, .slice none 0 0] 31 (.slice a n cap) (0) (wErr 1) F #[.int .i64 0, .int .i64 0, .int .i64 0, .int .i64 0, .int .i64 0, .int .i64 0, .int .i64 st.m, .bool st.hs, .int .i64 st.sc, .bool st.so, .slice aa na ca, .slice none 0 0] 31) := hide (HT20.out.drewN mm)
  generalize X20.drewN mm = X21 at *
  clear HT20
  go_wp2_with fail
  refine (takeBytes_err (w.heap.size + 1) (0) n cap _ 1 ((n : Int) - ((0 : Nat) : Int)) X21 HT21.out.1.2.2 (by omega) (by omega) (by omega) (by omega)).mono ?_
  rintro e X22 ⟨rfl, hb⟩
  have HT22 := hide (HT21.out.next hb)
  clear hb HT21
  generalize X21.heap.size = XB at *
  have k0 := HT22.out.2.1.cell 11 _ rfl
  have fz := HT22.out.2.1.frozen
  have HT23 : Hid (DS1 w (X22.setCell ⟨F, 11, none⟩ (.slice (some ⟨XB, 0, none⟩) 0 0)) #[.int .i64 0, .int .i64 0, .int .i64 0, .int .i64 0, .int .i64 0, .int .i64 0, .int .i64 0, .bool false, .int .i64 0, .bool false, .slice none 0 0, .slice none 0 0] 31 (.slice a n cap) (0) (wErr 1) F #[.int .i64 0, .int .i64 0, .int .i64 0, .int .i64 0, .int .i64 0, .int .i64 0, .int .i64 st.m, .bool st.hs, .int .i64 st.sc, .bool st.so, .slice aa na ca, .slice (some ⟨XB, 0, none⟩) 0 0] 31) := hide (HT22.out.set 11 (.slice (some ⟨XB, 0, none⟩) 0 0))
  go_wp2_with fail
  generalize X22.setCell ⟨F, 11, none⟩ (.slice (some ⟨XB, 0, none⟩) 0 0) = X23 at *
  clear k0 fz HT22
  have HTD := hide (HT23.out.drew)
  have HE7 := hide (HE.out.below HTD.out.1.1 (Nat.le_refl _))
  clear HE
  have CA := hide (ansSegment_err (0) (0) (0) (0) (0) (0) (st.m) (st.hs) (st.sc) (st.so) aa na ca (some ⟨XB, 0, none⟩) 0 0 1 (by decide) X23.drew HE7.out)
  have HK : Hid (X23.drew.cell? ⟨F, 0, none⟩ = some (.int .i64 0) ∧ X23.drew.cell? ⟨F, 1, none⟩ = some (.int .i64 0) ∧ X23.drew.cell? ⟨F, 2, none⟩ = some (.int .i64 0) ∧ X23.drew.cell? ⟨F, 3, none⟩ = some (.int .i64 0) ∧ X23.drew.cell? ⟨F, 4, none⟩ = some (.int .i64 0) ∧ X23.drew.cell? ⟨F, 5, none⟩ = some (.int .i64 0) ∧ X23.drew.cell? ⟨F, 6, none⟩ = some (.int .i64 st.m) ∧ X23.drew.cell? ⟨F, 7, none⟩ = some (.bool st.hs) ∧ X23.drew.cell? ⟨F, 8, none⟩ = some (.int .i64 st.sc) ∧ X23.drew.cell? ⟨F, 9, none⟩ = some (.bool st.so) ∧ X23.drew.cell? ⟨F, 10, none⟩ = some (.slice aa na ca) ∧ X23.drew.cell? ⟨F, 11, none⟩ = some (.slice (some ⟨XB, 0, none⟩) 0 0) ∧ X23.drew.cell? ⟨w.heap.size + 1, 2, none⟩ = some (wErr 1)) := hide ⟨HTD.out.2.1.cell 0 _ rfl, HTD.out.2.1.cell 1 _ rfl, HTD.out.2.1.cell 2 _ rfl, HTD.out.2.1.cell 3 _ rfl, HTD.out.2.1.cell 4 _ rfl, HTD.out.2.1.cell 5 _ rfl, HTD.out.2.1.cell 6 _ rfl, HTD.out.2.1.cell 7 _ rfl, HTD.out.2.1.cell 8 _ rfl, HTD.out.2.1.cell 9 _ rfl, HTD.out.2.1.cell 10 _ rfl, HTD.out.2.1.cell 11 _ rfl, HTD.out.1.2.2.cells.2.2.1⟩
  have hRF : w.heap.size ≠ F := by omega
  have hRC : w.heap.size ≠ w.heap.size + 1 := by omega
  clear HT23 HE7
  go_region_held3 (fun w' => w'.cell? ⟨F, 0, none⟩ = some (.int .i64 0) ∧ w'.cell? ⟨F, 1, none⟩ = some (.int .i64 0) ∧ w'.cell? ⟨F, 2, none⟩ = some (.int .i64 0) ∧ w'.cell? ⟨F, 3, none⟩ = some (.int .i64 0) ∧ w'.cell? ⟨F, 4, none⟩ = some (.int .i64 0) ∧ w'.cell? ⟨F, 5, none⟩ = some (.int .i64 0) ∧ w'.cell? ⟨F, 6, none⟩ = some (.int .i64 st.m) ∧ w'.cell? ⟨F, 7, none⟩ = some (.bool st.hs) ∧ w'.cell? ⟨F, 8, none⟩ = some (.int .i64 st.sc) ∧ w'.cell? ⟨F, 9, none⟩ = some (.bool st.so) ∧ w'.cell? ⟨F, 10, none⟩ = some (.slice aa na ca) ∧ w'.cell? ⟨F, 11, none⟩ = some (.slice (some ⟨XB, 0, none⟩) 0 0) ∧ w'.cell? ⟨w.heap.size + 1, 2, none⟩ = some (wErr 1)) (first | with_reducible assumption | with_reducible exact HK.out | exact ⟨far12 hRF hk9.1, far12 hRF hk9.2.1, far12 hRF hk9.2.2.1, far12 hRF hk9.2.2.2.1, far12 hRF hk9.2.2.2.2.1, far12 hRF hk9.2.2.2.2.2.1, far12 hRF hk9.2.2.2.2.2.2.1, far12 hRF hk9.2.2.2.2.2.2.2.1, far12 hRF hk9.2.2.2.2.2.2.2.2.1, far12 hRF hk9.2.2.2.2.2.2.2.2.2.1, far12 hRF hk9.2.2.2.2.2.2.2.2.2.2.1, far12 hRF hk9.2.2.2.2.2.2.2.2.2.2.2.1, far12 hRC hk9.2.2.2.2.2.2.2.2.2.2.2.2⟩)
    ((go_at_call 49; refine CA.out.mono ?_; rintro e w8 ⟨rfl, hb8⟩; have hk9 : w8.cell? ⟨F, 0, none⟩ = some (.int .i64 0) ∧ w8.cell? ⟨F, 1, none⟩ = some (.int .i64 0) ∧ w8.cell? ⟨F, 2, none⟩ = some (.int .i64 0) ∧ w8.cell? ⟨F, 3, none⟩ = some (.int .i64 0) ∧ w8.cell? ⟨F, 4, none⟩ = some (.int .i64 0) ∧ w8.cell? ⟨F, 5, none⟩ = some (.int .i64 0) ∧ w8.cell? ⟨F, 6, none⟩ = some (.int .i64 st.m) ∧ w8.cell? ⟨F, 7, none⟩ = some (.bool st.hs) ∧ w8.cell? ⟨F, 8, none⟩ = some (.int .i64 st.sc) ∧ w8.cell? ⟨F, 9, none⟩ = some (.bool st.so) ∧ w8.cell? ⟨F, 10, none⟩ = some (.slice aa na ca) ∧ w8.cell? ⟨F, 11, none⟩ = some (.slice (some ⟨XB, 0, none⟩) 0 0) ∧ w8.cell? ⟨w.heap.size + 1, 2, none⟩ = some (wErr 1) := ⟨(HTD.out.next hb8).2.1.cell 0 _ rfl, (HTD.out.next hb8).2.1.cell 1 _ rfl, (HTD.out.next hb8).2.1.cell 2 _ rfl, (HTD.out.next hb8).2.1.cell 3 _ rfl, (HTD.out.next hb8).2.1.cell 4 _ rfl, (HTD.out.next hb8).2.1.cell 5 _ rfl, (HTD.out.next hb8).2.1.cell 6 _ rfl, (HTD.out.next hb8).2.1.cell 7 _ rfl, (HTD.out.next hb8).2.1.cell 8 _ rfl, (HTD.out.next hb8).2.1.cell 9 _ rfl, (HTD.out.next hb8).2.1.cell 10 _ rfl, (HTD.out.next hb8).2.1.cell 11 _ rfl, (HTD.out.next hb8).1.2.2.cells.2.2.1⟩; have d0 := (HTD.out.next hb8).1.2.1.cell 0 _ rfl; have d1 := (HTD.out.next hb8).1.2.1.cell 1 _ rfl; have d2 := (HTD.out.next hb8).1.2.1.cell 2 _ rfl; have d3 := (HTD.out.next hb8).1.2.1.cell 3 _ rfl; have d4 := (HTD.out.next hb8).1.2.1.cell 4 _ rfl; have d5 := (HTD.out.next hb8).1.2.1.cell 5 _ rfl; have d6 := (HTD.out.next hb8).1.2.1.cell 6 _ rfl; have d7 := (HTD.out.next hb8).1.2.1.cell 7 _ rfl; have d8 := (HTD.out.next hb8).1.2.1.cell 8 _ rfl; have d9 := (HTD.out.next hb8).1.2.1.cell 9 _ rfl; have d10 := (HTD.out.next hb8).1.2.1.cell 10 _ rfl; have d11 := (HTD.out.next hb8).1.2.1.cell 11 _ rfl; have fz := (HTD.out.next hb8).1.2.1.frozen))
  all_goals
    have HT9 := hide (HTD.out.next hb8)
    clear hb8 HTD CA HK hk9
    go_wp2_with fail
    refine ret12 (P := fun X => bodyPost Tryd.prog Tryd.f14 _ _ _ X) HT9.out.1.2.1 ?_
    intro W9 hr9 hg9
    have hb9 := HT9.out.1.1.grown hg9 HT9.out.1.1.size (fun k hk => by cases hk; exact Nat.le_refl _)
    clear hg9 fz d0 d1 d2 d3 d4 d5 d6 d7 d8 d9 d10 d11
    have r0 := hr9.cell 0 _ rfl; have r1 := hr9.cell 1 _ rfl; have r2 := hr9.cell 2 _ rfl; have r3 := hr9.cell 3 _ rfl; have r4 := hr9.cell 4 _ rfl; have r5 := hr9.cell 5 _ rfl; have r6 := hr9.cell 6 _ rfl; have r7 := hr9.cell 7 _ rfl; have r8 := hr9.cell 8 _ rfl; have r9 := hr9.cell 9 _ rfl; have r10 := hr9.cell 10 _ rfl; have r11 := hr9.cell 11 _ rfl
    exact bodyPost_ret (v := .tuple #[.agg #[.int .i64 0, .int .i64 0, .int .i64 0, .int .i64 0, .int .i64 0, .int .i64 0, .int .i64 0, .bool false, .int .i64 0, .bool false, .slice none 0 0, .slice none 0 0], .int .i64 1]) (by simp [results, Tryd.results14, go_sem, r0, r1, r2, r3, r4, r5, r6, r7, r8, r9, r10, r11]) rfl ⟨rfl, hb9⟩

set_option maxHeartbeats 16000000 in
theorem implDecS_f2 (a : Option Addr) (n cap : Nat) (s d : Int) (zs : List Int) (w : World) (hn : zs.length = n) (ha : Arr w a zs) (hm : n ≤ 1048576) (hcap : n ≤ cap) (he : ErrT w) (h0 : adrB s = true) (h1 : adrB d = false) :
    Calls Tryd.prog 14 #[.slice a n cap, .int .i64 s, .int .i64 d] w fun e w' => e = .returned (.tuple #[.agg #[.int .i64 0, .int .i64 0, .int .i64 0, .int .i64 0, .int .i64 0, .int .i64 0, .int .i64 0, .bool false, .int .i64 0, .bool false, .slice none 0 0, .slice none 0 0], .int .i64 1]) ∧ Below w.heap.size w w' := by
  have HS0 := hide (DS0.start w #[.int .i64 0, .int .i64 0, .int .i64 0, .int .i64 0, .int .i64 0, .int .i64 0, .int .i64 0, .bool false, .int .i64 0, .bool false, .slice none 0 0, .slice none 0 0] 31 (.slice a n cap))
  have HA := hide ha
  have HN := hide hn
  have hm2 : n ≤ 1048576 := by omega
  have HE := hide he
  clear he
  have e063 : bits .and .i64 0 63 = 0 := (and_63_i64 0 (by omega) (by omega)).trans (by decide)
  clear ha hn
  go_enter Tryd.func14, Tryd.ntmps14
  go_wp2_with (first | (go_at_call 42; refine (isAddr_walk _ _).mono ?_; rintro e w' ⟨rfl, rfl⟩))
  generalize hW : (w.alloc (.cells #[.int .i64 0, .int .i64 0, .int .i64 0, .int .i64 0, .int .i64 0, .int .i64 0, .int .i64 0, .bool false, .int .i64 0, .bool false, .slice none 0 0, .slice none 0 0] 31)).alloc (.cells #[.slice a n cap, .int .i64 0, .nilIface] 69) = W0 at *
  clear hW
  refine (demand_no (w.heap.size + 1) (0) (.slice a n cap) _ _ HS0.out.2.2).mono ?_
  rintro e X1 ⟨rfl, hc, hg⟩
  have HS1 := hide (HS0.out.moved hg hc)
  clear hc hg HS0
  go_wp2_with fail
  refine (demand_err (w.heap.size + 1) (0) (.slice a n cap) 1 _ _ _ HS1.out.2.2).mono ?_
  rintro e w' ⟨rfl, hw⟩
  rw [hw]
  clear hw
  go_wp2_with fail
  refine (demand_err (w.heap.size + 1) (0) (.slice a n cap) 1 _ _ _ HS1.out.2.2).mono ?_
  rintro e w' ⟨rfl, hw⟩
  rw [hw]
  clear hw
  have HT2 := hide (DS1.start HS1.out #[.int .i64 0, .int .i64 0, .int .i64 0, .int .i64 0, .int .i64 0, .int .i64 0, .int .i64 0, .bool false, .int .i64 0, .bool false, .slice none 0 0, .slice none 0 0] 31)
  have hF : w.heap.size + 1 < X1.heap.size := HS1.out.2.2.lt
  clear HS1
  go_wp2_with fail
  generalize hV : X1.alloc (.cells #[.int .i64 0, .int .i64 0, .int .i64 0, .int .i64 0, .int .i64 0, .int .i64 0, .int .i64 0, .bool false, .int .i64 0, .bool false, .slice none 0 0, .slice none 0 0] 31) = X2 at *
  clear hV
  generalize X1.heap.size = F at *
  refine (take_err (w.heap.size + 1) (0) n cap _ 1 2 _ HT2.out.1.2.2 (by omega) (by omega) (by omega) (by omega)).mono ?_
  rintro e w' ⟨rfl, mm, rfl⟩
  have HT3 : Hid (DS1 w (X2.drewN mm) #[.int .i64 0, .int .i64 0, .int .i64 0, .int .i64 0, .int .i64 0, .int .i64 0, .int .i64 0, .bool false, .int .i64 0, .bool false, .slice none 0 0, .slice none 0 0] 31 (.slice a n cap) (0) (wErr 1) F #[.int .i64 0, .int .i64 0, .int .i64 0, .int .i64 0, .int .i64 0, .int .i64 0, .int .i64 0, .bool false, .int .i64 0, .bool false, .slice none 0 0, .slice none 0 0] 31) := hide (HT2.out.drewN mm)
  generalize X2.drewN mm = X3 at *
  clear HT2
  have k0 := HT3.out.2.1.cell 0 _ rfl
  have fz := HT3.out.2.1.frozen
  have HT4 : Hid (DS1 w (X3.setCell ⟨F, 0, none⟩ (.int .i64 0)) #[.int .i64 0, .int .i64 0, .int .i64 0, .int .i64 0, .int .i64 0, .int .i64 0, .int .i64 0, .bool false, .int .i64 0, .bool false, .slice none 0 0, .slice none 0 0] 31 (.slice a n cap) (0) (wErr 1) F #[.int .i64 0, .int .i64 0, .int .i64 0, .int .i64 0, .int .i64 0, .int .i64 0, .int .i64 0, .bool false, .int .i64 0, .bool false, .slice none 0 0, .slice none 0 0] 31) := hide (HT3.out.set 0 (.int .i64 0))
  go_wp2_with fail
  generalize X3.setCell ⟨F, 0, none⟩ (.int .i64 0) = X4 at *
  clear k0 fz HT3
  refine (take_err (w.heap.size + 1) (0) n cap _ 1 2 _ HT4.out.1.2.2 (by omega) (by omega) (by omega) (by omega)).mono ?_
  rintro e w' ⟨rfl, mm, rfl⟩
  have HT5 : Hid (DS1 w (X4.drewN mm) #[.int .i64 0, .int .i64 0, .int .i64 0, .int .i64 0, .int .i64 0, .int .i64 0, .int .i64 0, .bool false, .int .i64 0, .bool false, .slice none 0 0, .slice none 0 0] 31 (.slice a n cap) (0) (wErr 1) F #[.int .i64 0, .int .i64 0, .int .i64 0, .int .i64 0, .int .i64 0, .int .i64 0, .int .i64 0, .bool false, .int .i64 0, .bool false, .slice none 0 0, .slice none 0 0] 31) := hide (HT4.out.drewN mm)
  generalize X4.drewN mm = X5 at *
  clear HT4
  have k0 := HT5.out.2.1.cell 1 _ rfl
  have fz := HT5.out.2.1.frozen
  have HT6 : Hid (DS1 w (X5.setCell ⟨F, 1, none⟩ (.int .i64 0)) #[.int .i64 0, .int .i64 0, .int .i64 0, .int .i64 0, .int .i64 0, .int .i64 0, .int .i64 0, .bool false, .int .i64 0, .bool false, .slice none 0 0, .slice none 0 0] 31 (.slice a n cap) (0) (wErr 1) F #[.int .i64 0, .int .i64 0, .int .i64 0, .int .i64 0, .int .i64 0, .int .i64 0, .int .i64 0, .bool false, .int .i64 0, .bool false, .slice none 0 0, .slice none 0 0] 31) := hide (HT5.out.set 1 (.int .i64 0))
  go_wp2_with fail
  generalize X5.setCell ⟨F, 1, none⟩ (.int .i64 0) = X6 at *
  clear k0 fz HT5
  refine (take_err (w.heap.size + 1) (0) n cap _ 1 4 _ HT6.out.1.2.2 (by omega) (by omega) (by omega) (by omega)).mono ?_
  rintro e w' ⟨rfl, mm, rfl⟩
  have HT7 : Hid (DS1 w (X6.drewN mm) #[.int .i64 0, .int .i64 0, .int .i64 0, .int .i64 0, .int .i64 0, .int .i64 0, .int .i64 0, .bool false, .int .i64 0, .bool false, .slice none 0 0, .slice none 0 0] 31 (.slice a n cap) (0) (wErr 1) F #[.int .i64 0, .int .i64 0, .int .i64 0, .int .i64 0, .int .i64 0, .int .i64 0, .int .i64 0, .bool false, .int .i64 0, .bool false, .slice none 0 0, .slice none 0 0] 31) := hide (HT6.out.drewN mm)
  generalize X6.drewN mm = X7 at *
  clear HT6
  have k0 := HT7.out.2.1.cell 2 _ rfl
  have fz := HT7.out.2.1.frozen
  have HT8 : Hid (DS1 w (X7.setCell ⟨F, 2, none⟩ (.int .i64 0)) #[.int .i64 0, .int .i64 0, .int .i64 0, .int .i64 0, .int .i64 0, .int .i64 0, .int .i64 0, .bool false, .int .i64 0, .bool false, .slice none 0 0, .slice none 0 0] 31 (.slice a n cap) (0) (wErr 1) F #[.int .i64 0, .int .i64 0, .int .i64 0, .int .i64 0, .int .i64 0, .int .i64 0, .int .i64 0, .bool false, .int .i64 0, .bool false, .slice none 0 0, .slice none 0 0] 31) := hide (HT7.out.set 2 (.int .i64 0))
  go_wp2_with fail
  generalize X7.setCell ⟨F, 2, none⟩ (.int .i64 0) = X8 at *
  clear k0 fz HT7
  refine (take_err (w.heap.size + 1) (0) n cap _ 1 4 _ HT8.out.1.2.2 (by omega) (by omega) (by omega) (by omega)).mono ?_
  rintro e w' ⟨rfl, mm, rfl⟩
  have HT9 : Hid (DS1 w (X8.drewN mm) #[.int .i64 0, .int .i64 0, .int .i64 0, .int .i64 0, .int .i64 0, .int .i64 0, .int .i64 0, .bool false, .int .i64 0, .bool false, .slice none 0 0, .slice none 0 0] 31 (.slice a n cap) (0) (wErr 1) F #[.int .i64 0, .int .i64 0, .int .i64 0, .int .i64 0, .int .i64 0, .int .i64 0, .int .i64 0, .bool false, .int .i64 0, .bool false, .slice none 0 0, .slice none 0 0] 31) := hide (HT8.out.drewN mm)
  generalize X8.drewN mm = X9 at *
  clear HT8
  have k0 := HT9.out.2.1.cell 3 _ rfl
  have fz := HT9.out.2.1.frozen
  have HT10 : Hid (DS1 w (X9.setCell ⟨F, 3, none⟩ (.int .i64 0)) #[.int .i64 0, .int .i64 0, .int .i64 0, .int .i64 0, .int .i64 0, .int .i64 0, .int .i64 0, .bool false, .int .i64 0, .bool false, .slice none 0 0, .slice none 0 0] 31 (.slice a n cap) (0) (wErr 1) F #[.int .i64 0, .int .i64 0, .int .i64 0, .int .i64 0, .int .i64 0, .int .i64 0, .int .i64 0, .bool false, .int .i64 0, .bool false, .slice none 0 0, .slice none 0 0] 31) := hide (HT9.out.set 3 (.int .i64 0))
  go_wp2_with fail
  generalize X9.setCell ⟨F, 3, none⟩ (.int .i64 0) = X10 at *
  clear k0 fz HT9
  refine (take_err (w.heap.size + 1) (0) n cap _ 1 1 _ HT10.out.1.2.2 (by omega) (by omega) (by omega) (by omega)).mono ?_
  rintro e w' ⟨rfl, mm, rfl⟩
  have HT11 : Hid (DS1 w (X10.drewN mm) #[.int .i64 0, .int .i64 0, .int .i64 0, .int .i64 0, .int .i64 0, .int .i64 0, .int .i64 0, .bool false, .int .i64 0, .bool false, .slice none 0 0, .slice none 0 0] 31 (.slice a n cap) (0) (wErr 1) F #[.int .i64 0, .int .i64 0, .int .i64 0, .int .i64 0, .int .i64 0, .int .i64 0, .int .i64 0, .bool false, .int .i64 0, .bool false, .slice none 0 0, .slice none 0 0] 31) := hide (HT10.out.drewN mm)
  generalize X10.drewN mm = X11 at *
  clear HT10
  go_wp2_with fail
  refine (demand_err (w.heap.size + 1) (0) (.slice a n cap) 1 _ _ _ HT11.out.1.2.2).mono ?_
  rintro e w' ⟨rfl, hw⟩
  rw [hw]
  clear hw
  go_wp2_with fail
  have cc := sumFH_walk a n cap s d 6 zs X11 HN.out (HA.out.below HT11.out.1.1 (Nat.le_refl _)) hm2
  generalize fsum s d 6 zs = fsv at cc
  have CC := hide cc
  clear cc
  refine CC.out.mono ?_
  rintro e X12 ⟨rfl, hb⟩
  have HT12 := hide (HT11.out.next hb)
  clear CC hb HT11
  go_wp2_with fail
  refine (demand_err (w.heap.size + 1) (0) (.slice a n cap) 1 _ _ _ HT12.out.1.2.2).mono ?_
  rintro e w' ⟨rfl, hw⟩
  rw [hw]
  clear hw
  go_wp2_with fail
  refine (take_err (w.heap.size + 1) (0) n cap _ 1 1 _ HT12.out.1.2.2 (by omega) (by omega) (by omega) (by omega)).mono ?_
  rintro e w' ⟨rfl, mm, rfl⟩
  have HT13 : Hid (DS1 w (X12.drewN mm) #[.int .i64 0, .int .i64 0, .int .i64 0, .int .i64 0, .int .i64 0, .int .i64 0, .int .i64 0, .bool false, .int .i64 0, .bool false, .slice none 0 0, .slice none 0 0] 31 (.slice a n cap) (0) (wErr 1) F #[.int .i64 0, .int .i64 0, .int .i64 0, .int .i64 0, .int .i64 0, .int .i64 0, .int .i64 0, .bool false, .int .i64 0, .bool false, .slice none 0 0, .slice none 0 0] 31) := hide (HT12.out.drewN mm)
  generalize X12.drewN mm = X13 at *
  clear HT12
  have k0 := HT13.out.2.1.cell 4 _ rfl
  have fz := HT13.out.2.1.frozen
  have HT14 : Hid (DS1 w (X13.setCell ⟨F, 4, none⟩ (.int .i64 0)) #[.int .i64 0, .int .i64 0, .int .i64 0, .int .i64 0, .int .i64 0, .int .i64 0, .int .i64 0, .bool false, .int .i64 0, .bool false, .slice none 0 0, .slice none 0 0] 31 (.slice a n cap) (0) (wErr 1) F #[.int .i64 0, .int .i64 0, .int .i64 0, .int .i64 0, .int .i64 0, .int .i64 0, .int .i64 0, .bool false, .int .i64 0, .bool false, .slice none 0 0, .slice none 0 0] 31) := hide (HT13.out.set 4 (.int .i64 0))
  go_wp2_with fail
  generalize X13.setCell ⟨F, 4, none⟩ (.int .i64 0) = X14 at *
  clear k0 fz HT13
  refine (take_err (w.heap.size + 1) (0) n cap _ 1 2 _ HT14.out.1.2.2 (by omega) (by omega) (by omega) (by omega)).mono ?_
  rintro e w' ⟨rfl, mm, rfl⟩
  have HT15 : Hid (DS1 w (X14.drewN mm) #[.int .i64 0, .int .i64 0, .int .i64 0, .int .i64 0, .int .i64 0, .int .i64 0, .int .i64 0, .bool false, .int .i64 0, .bool false, .slice none 0 0, .slice none 0 0] 31 (.slice a n cap) (0) (wErr 1) F #[.int .i64 0, .int .i64 0, .int .i64 0, .int .i64 0, .int .i64 0, .int .i64 0, .int .i64 0, .bool false, .int .i64 0, .bool false, .slice none 0 0, .slice none 0 0] 31) := hide (HT14.out.drewN mm)
  generalize X14.drewN mm = X15 at *
  clear HT14
  have k0 := HT15.out.2.1.cell 5 _ rfl
  have fz := HT15.out.2.1.frozen
  have HT16 : Hid (DS1 w (X15.setCell ⟨F, 5, none⟩ (.int .i64 0)) #[.int .i64 0, .int .i64 0, .int .i64 0, .int .i64 0, .int .i64 0, .int .i64 0, .int .i64 0, .bool false, .int .i64 0, .bool false, .slice none 0 0, .slice none 0 0] 31 (.slice a n cap) (0) (wErr 1) F #[.int .i64 0, .int .i64 0, .int .i64 0, .int .i64 0, .int .i64 0, .int .i64 0, .int .i64 0, .bool false, .int .i64 0, .bool false, .slice none 0 0, .slice none 0 0] 31) := hide (HT15.out.set 5 (.int .i64 0))
  go_wp2_with fail
  generalize X15.setCell ⟨F, 5, none⟩ (.int .i64 0) = X16 at *
  clear k0 fz HT15
  refine (pass_err (w.heap.size + 1) (0) n cap _ 1 (4) _ HT16.out.1.2.2 (by omega) (by omega) (by omega) (by omega)).mono ?_
  rintro e w' ⟨rfl, mm, rfl⟩
  have HT17 : Hid (DS1 w (X16.drewN mm) #[.int .i64 0, .int .i64 0, .int .i64 0, .int .i64 0, .int .i64 0, .int .i64 0, .int .i64 0, .bool false, .int .i64 0, .bool false, .slice none 0 0, .slice none 0 0] 31 (.slice a n cap) (0) (wErr 1) F #[.int .i64 0, .int .i64 0, .int .i64 0, .int .i64 0, .int .i64 0, .int .i64 0, .int .i64 0, .bool false, .int .i64 0, .bool false, .slice none 0 0, .slice none 0 0] 31) := hide (HT16.out.drewN mm)
  generalize X16.drewN mm = X17 at *
  clear HT16
  go_wp2_with fail
  refine (pass_err (w.heap.size + 1) (0) n cap _ 1 (-20) _ HT17.out.1.2.2 (by omega) (by omega) (by omega) (by omega)).mono ?_
  rintro e w' ⟨rfl, mm, rfl⟩
  have HT18 : Hid (DS1 w (X17.drewN mm) #[.int .i64 0, .int .i64 0, .int .i64 0, .int .i64 0, .int .i64 0, .int .i64 0, .int .i64 0, .bool false, .int .i64 0, .bool false, .slice none 0 0, .slice none 0 0] 31 (.slice a n cap) (0) (wErr 1) F #[.int .i64 0, .int .i64 0, .int .i64 0, .int .i64 0, .int .i64 0, .int .i64 0, .int .i64 0, .bool false, .int .i64 0, .bool false, .slice none 0 0, .slice none 0 0] 31) := hide (HT17.out.drewN mm)
  generalize X17.drewN mm = X18 at *
  clear HT17
  have HT19 := hide (HT18.out.next ((Below.refl X18.heap.size X18).alloc (Nat.le_refl _) (.cells #[.slice none 0 0, .int .i64 0, .nilIface] 69)))
  have HG : Hid (Cur (X18.alloc (.cells #[.slice none 0 0, .int .i64 0, .nilIface] 69)) X18.heap.size (.slice none 0 0) 0 .nilIface) := hide (heap_alloc_new _ _)
  have hFG : F < X18.heap.size := HT18.out.2.1.lt
  have hws : w.heap.size ≤ (X18.alloc (.cells #[.slice none 0 0, .int .i64 0, .nilIface] 69)).heap.size := HT19.out.1.1.size
  clear HT18
  go_wp2_with fail
  generalize X18.alloc (.cells #[.slice none 0 0, .int .i64 0, .nilIface] 69) = X19 at *
  generalize X18.heap.size = G at *
  refine (takeOpts_walk G F w.heap.size 0 0 none [] (0) (0) (0) (0) (0) (0) ⟨0, false, 0, false, []⟩ (.slice none 0 0) (.slice none 0 0) 0 X19 HG.out HT19.out.2.1 (OwnI.nil _ _ _ _) hws rfl (by omega) (by omega) ⟨by simp, fun j hj => by simp at hj⟩ (by omega) (fun h => absurd h (by omega))).mono ?_
  rintro e X20 ⟨rfl, qo, evo, st, vo, ro, hts, hres⟩
  obtain ⟨aa, na, ca, rfl⟩ : ∃ (aa : Option Addr) (na ca : Nat), vo = .slice aa na ca := by
    rcases hts.2.2.2.form with ⟨h, _⟩ | ⟨_, _, _, h, _⟩ <;> exact ⟨_, _, _, h⟩
  have HT20 := hide (DS1.opts (vs' := #[.int .i64 0, .int .i64 0, .int .i64 0, .int .i64 0, .int .i64 0, .int .i64 0, .int .i64 st.m, .bool st.hs, .int .i64 st.sc, .bool st.so, .slice aa na ca, .slice none 0 0]) HT19.out hts.1 (by omega) hts.2.2.1)
  have HO20 := hide hts.2.2.2
  have HQ := hide hts.2.1
  have HRS := hide hres
  clear hts hres HG HT19
  obtain rfl : evo = .nilIface := by
    rcases HRS.out with ⟨_, h2⟩ | ⟨h1, _⟩
    · exact h2
    · rw [rdO_end (.inl rfl)] at h1; cases h1
  obtain ⟨e0, e1, e2, ef⟩ := HQ.out.cells
  clear HRS
  go_wp2_with fail
  clear e0 e1 e2 ef HQ
  refine (demand_err (w.heap.size + 1) (0) (.slice a n cap) 1 _ _ _ HT20.out.1.2.2).mono ?_
  rintro e w' ⟨rfl, hw⟩
  rw [hw]
  clear hw
  go_wp2_with fail
  refine (left_walk (w.heap.size + 1) (0) n cap _ _ _ HT20.out.1.2.2 (by omega) (by omega)).mono ?_
  rintro e w' ⟨rfl, mm, rfl⟩
  have HT21 : Hid (DS1 w (X20.drewN mm) #[.int .i64 0, .int .i64 0, .int .i64 0, .int .i64 0, .int .i64 0, .int .i64 0, .int .i64 0, .bool false, .int .i64 0, .bool false, .slice none 0 0, .slice none 0 0] 31 (.slice a n cap) (0) (wErr 1) F #[.int .i64 0, .int .i64 0, .int .i64 0, .int .i64 0, .int .i64 0, .int .i64 0, .int .i64 st.m, .bool st.hs, .int .i64 st.sc, .bool st.so, .slice aa na ca, .slice none 0 0] 31) := hide (HT20.out.drewN mm)
  generalize X20.drewN mm = X21 at *
  clear HT20
  go_wp2_with fail
  refine (takeBytes_err (w.heap.size + 1) (0) n cap _ 1 ((n : Int) - ((0 : Nat) : Int)) X21 HT21.out.1.2.2 (by omega) (by omega) (by omega) (by omega)).mono ?_
  rintro e X22 ⟨rfl, hb⟩
  have HT22 := hide (HT21.out.next hb)
  clear hb HT21
  generalize X21.heap.size = XB at *
  have k0 := HT22.out.2.1.cell 11 _ rfl
  have fz := HT22.out.2.1.frozen
  have HT23 : Hid (DS1 w (X22.setCell ⟨F, 11, none⟩ (.slice (some ⟨XB, 0, none⟩) 0 0)) #[.int .i64 0, .int .i64 0, .int .i64 0, .int .i64 0, .int .i64 0, .int .i64 0, .int .i64 0, .bool false, .int .i64 0, .bool false, .slice none 0 0, .slice none 0 0] 31 (.slice a n cap) (0) (wErr 1) F #[.int .i64 0, .int .i64 0, .int .i64 0, .int .i64 0, .int .i64 0, .int .i64 0, .int .i64 st.m, .bool st.hs, .int .i64 st.sc, .bool st.so, .slice aa na ca, .slice (some ⟨XB, 0, none⟩) 0 0] 31) := hide (HT22.out.set 11 (.slice (some ⟨XB, 0, none⟩) 0 0))
  go_wp2_with fail
  generalize X22.setCell ⟨F, 11, none⟩ (.slice (some ⟨XB, 0, none⟩) 0 0) = X23 at *
  clear k0 fz HT22
  have HTD := hide (HT23.out.drew)
  have HE7 := hide (HE.out.below HTD.out.1.1 (Nat.le_refl _))
  clear HE
  have CA := hide (ansSegment_err (0) (0) (0) (0) (0) (0) (st.m) (st.hs) (st.sc) (st.so) aa na ca (some ⟨XB, 0, none⟩) 0 0 1 (by decide) X23.drew HE7.out)
  have HK : Hid (X23.drew.cell? ⟨F, 0, none⟩ = some (.int .i64 0) ∧ X23.drew.cell? ⟨F, 1, none⟩ = some (.int .i64 0) ∧ X23.drew.cell? ⟨F, 2, none⟩ = some (.int .i64 0) ∧ X23.drew.cell? ⟨F, 3, none⟩ = some (.int .i64 0) ∧ X23.drew.cell? ⟨F, 4, none⟩ = some (.int .i64 0) ∧ X23.drew.cell? ⟨F, 5, none⟩ = some (.int .i64 0) ∧ X23.drew.cell? ⟨F, 6, none⟩ = some (.int .i64 st.m) ∧ X23.drew.cell? ⟨F, 7, none⟩ = some (.bool st.hs) ∧ X23.drew.cell? ⟨F, 8, none⟩ = some (.int .i64 st.sc) ∧ X23.drew.cell? ⟨F, 9, none⟩ = some (.bool st.so) ∧ X23.drew.cell? ⟨F, 10, none⟩ = some (.slice aa na ca) ∧ X23.drew.cell? ⟨F, 11, none⟩ = some (.slice (some ⟨XB, 0, none⟩) 0 0) ∧ X23.drew.cell? ⟨w.heap.size + 1, 2, none⟩ = some (wErr 1)) := hide ⟨HTD.out.2.1.cell 0 _ rfl, HTD.out.2.1.cell 1 _ rfl, HTD.out.2.1.cell 2 _ rfl, HTD.out.2.1.cell 3 _ rfl, HTD.out.2.1.cell 4 _ rfl, HTD.out.2.1.cell 5 _ rfl, HTD.out.2.1.cell 6 _ rfl, HTD.out.2.1.cell 7 _ rfl, HTD.out.2.1.cell 8 _ rfl, HTD.out.2.1.cell 9 _ rfl, HTD.out.2.1.cell 10 _ rfl, HTD.out.2.1.cell 11 _ rfl, HTD.out.1.2.2.cells.2.2.1⟩
  have hRF : w.heap.size ≠ F := by omega
  have hRC : w.heap.size ≠ w.heap.size + 1 := by omega
  clear HT23 HE7
  go_region_held3 (fun w' => w'.cell? ⟨F, 0, none⟩ = some (.int .i64 0) ∧ w'.cell? ⟨F, 1, none⟩ = some (.int .i64 0) ∧ w'.cell? ⟨F, 2, none⟩ = some (.int .i64 0) ∧ w'.cell? ⟨F, 3, none⟩ = some (.int .i64 0) ∧ w'.cell? ⟨F, 4, none⟩ = some (.int .i64 0) ∧ w'.cell? ⟨F, 5, none⟩ = some (.int .i64 0) ∧ w'.cell? ⟨F, 6, none⟩ = some (.int .i64 st.m) ∧ w'.cell? ⟨F, 7, none⟩ = some (.bool st.hs) ∧ w'.cell? ⟨F, 8, none⟩ = some (.int .i64 st.sc) ∧ w'.cell? ⟨F, 9, none⟩ = some (.bool st.so) ∧ w'.cell? ⟨F, 10, none⟩ = some (.slice aa na ca) ∧ w'.cell? ⟨F, 11, none⟩ = some (.slice (some ⟨XB, 0, none⟩) 0 0) ∧ w'.cell? ⟨w.heap.size + 1, 2, none⟩ = some (wErr 1)) (first | with_reducible assumption | with_reducible exact HK.out | exact ⟨far12 hRF hk9.1, far12 hRF hk9.2.1, far12 hRF hk9.2.2.1, far12 hRF hk9.2.2.2.1, far12 hRF hk9.2.2.2.2.1, far12 hRF hk9.2.2.2.2.2.1, far12 hRF hk9.2.2.2.2.2.2.1, far12 hRF hk9.2.2.2.2.2.2.2.1, far12 hRF hk9.2.2.2.2.2.2.2.2.1, far12 hRF hk9.2.2.2.2.2.2.2.2.2.1, far12 hRF hk9.2.2.2.2.2.2.2.2.2.2.1, far12 hRF hk9.2.2.2.2.2.2.2.2.2.2.2.1, far12 hRC hk9.2.2.2.2.2.2.2.2.2.2.2.2⟩)
    ((go_at_call 49; refine CA.out.mono ?_; rintro e w8 ⟨rfl, hb8⟩; have hk9 : w8.cell? ⟨F, 0, none⟩ = some (.int .i64 0) ∧ w8.cell? ⟨F, 1, none⟩ = some (.int .i64 0) ∧ w8.cell? ⟨F, 2, none⟩ = some (.int .i64 0) ∧ w8.cell? ⟨F, 3, none⟩ = some (.int .i64 0) ∧ w8.cell? ⟨F, 4, none⟩ = some (.int .i64 0) ∧ w8.cell? ⟨F, 5, none⟩ = some (.int .i64 0) ∧ w8.cell? ⟨F, 6, none⟩ = some (.int .i64 st.m) ∧ w8.cell? ⟨F, 7, none⟩ = some (.bool st.hs) ∧ w8.cell? ⟨F, 8, none⟩ = some (.int .i64 st.sc) ∧ w8.cell? ⟨F, 9, none⟩ = some (.bool st.so) ∧ w8.cell? ⟨F, 10, none⟩ = some (.slice aa na ca) ∧ w8.cell? ⟨F, 11, none⟩ = some (.slice (some ⟨XB, 0, none⟩) 0 0) ∧ w8.cell? ⟨w.heap.size + 1, 2, none⟩ = some (wErr 1) := ⟨(HTD.out.next hb8).2.1.cell 0 _ rfl, (HTD.out.next hb8).2.1.cell 1 _ rfl, (HTD.out.next hb8).2.1.cell 2 _ rfl, (HTD.out.next hb8).2.1.cell 3 _ rfl, (HTD.out.next hb8).2.1.cell 4 _ rfl, (HTD.out.next hb8).2.1.cell 5 _ rfl, (HTD.out.next hb8).2.1.cell 6 _ rfl, (HTD.out.next hb8).2.1.cell 7 _ rfl, (HTD.out.next hb8).2.1.cell 8 _ rfl, (HTD.out.next hb8).2.1.cell 9 _ rfl, (HTD.out.next hb8).2.1.cell 10 _ rfl, (HTD.out.next hb8).2.1.cell 11 _ rfl, (HTD.out.next hb8).1.2.2.cells.2.2.1⟩; have d0 := (HTD.out.next hb8).1.2.1.cell 0 _ rfl; have d1 := (HTD.out.next hb8).1.2.1.cell 1 _ rfl; have d2 := (HTD.out.next hb8).1.2.1.cell 2 _ rfl; have d3 := (HTD.out.next hb8).1.2.1.cell 3 _ rfl; have d4 := (HTD.out.next hb8).1.2.1.cell 4 _ rfl; have d5 := (HTD.out.next hb8).1.2.1.cell 5 _ rfl; have d6 := (HTD.out.next hb8).1.2.1.cell 6 _ rfl; have d7 := (HTD.out.next hb8).1.2.1.cell 7 _ rfl; have d8 := (HTD.out.next hb8).1.2.1.cell 8 _ rfl; have d9 := (HTD.out.next hb8).1.2.1.cell 9 _ rfl; have d10 := (HTD.out.next hb8).1.2.1.cell 10 _ rfl; have d11 := (HTD.out.next hb8).1.2.1.cell 11 _ rfl; have fz := (HTD.out.next hb8).1.2.1.frozen))
  all_goals
    have HT9 := hide (HTD.out.next hb8)
    clear hb8 HTD CA HK hk9
    go_wp2_with fail
    refine ret12 (P := fun X => bodyPost Tryd.prog Tryd.f14 _ _ _ X) HT9.out.1.2.1 ?_
    intro W9 hr9 hg9
    have hb9 := HT9.out.1.1.grown hg9 HT9.out.1.1.size (fun k hk => by cases hk; exact Nat.le_refl _)
    clear hg9 fz d0 d1 d2 d3 d4 d5 d6 d7 d8 d9 d10 d11
    have r0 := hr9.cell 0 _ rfl; have r1 := hr9.cell 1 _ rfl; have r2 := hr9.cell 2 _ rfl; have r3 := hr9.cell 3 _ rfl; have r4 := hr9.cell 4 _ rfl; have r5 := hr9.cell 5 _ rfl; have r6 := hr9.cell 6 _ rfl; have r7 := hr9.cell 7 _ rfl; have r8 := hr9.cell 8 _ rfl; have r9 := hr9.cell 9 _ rfl; have r10 := hr9.cell 10 _ rfl; have r11 := hr9.cell 11 _ rfl
    exact bodyPost_ret (v := .tuple #[.agg #[.int .i64 0, .int .i64 0, .int .i64 0, .int .i64 0, .int .i64 0, .int .i64 0, .int .i64 0, .bool false, .int .i64 0, .bool false, .slice none 0 0, .slice none 0 0], .int .i64 1]) (by simp [results, Tryd.results14, go_sem, r0, r1, r2, r3, r4, r5, r6, r7, r8, r9, r10, r11]) rfl ⟨rfl, hb9⟩

set_option maxHeartbeats 16000000 in
theorem implDecS_short (a : Option Addr) (n cap : Nat) (s d : Int) (zs : List Int) (w : World) (hn : zs.length = n) (ha : Arr w a zs) (hm : n ≤ 1048576) (hcap : n ≤ cap) (he : ErrT w) (h0 : adrB s = true) (h1 : adrB d = true) (h2 : n < 20) :
    Calls Tryd.prog 14 #[.slice a n cap, .int .i64 s, .int .i64 d] w fun e w' => e = .returned (.tuple #[.agg #[.int .i64 0, .int .i64 0, .int .i64 0, .int .i64 0, .int .i64 0, .int .i64 0, .int .i64 0, .bool false, .int .i64 0, .bool false, .slice none 0 0, .slice none 0 0], .int .i64 2]) ∧ Below w.heap.size w w' := by
  have HS0 := hide (DS0.start w #[.int .i64 0, .int .i64 0, .int .i64 0, .int .i64 0, .int .i64 0, .int .i64 0, .int .i64 0, .bool false, .int .i64 0, .bool false, .slice none 0 0, .slice none 0 0] 31 (.slice a n cap))
  have HA := hide ha
  have HN := hide hn
  have hm2 : n ≤ 1048576 := by omega
  have HE := hide he
  clear he
  have hd1 : decide ((20 : Int) ≤ (n : Int)) = false := decide_eq_false (by omega)
  have e063 : bits .and .i64 0 63 = 0 := (and_63_i64 0 (by omega) (by omega)).trans (by decide)
  clear ha hn
  go_enter Tryd.func14, Tryd.ntmps14
  go_wp2_with (first | (go_at_call 42; refine (isAddr_walk _ _).mono ?_; rintro e w' ⟨rfl, rfl⟩))
  generalize hW : (w.alloc (.cells #[.int .i64 0, .int .i64 0, .int .i64 0, .int .i64 0, .int .i64 0, .int .i64 0, .int .i64 0, .bool false, .int .i64 0, .bool false, .slice none 0 0, .slice none 0 0] 31)).alloc (.cells #[.slice a n cap, .int .i64 0, .nilIface] 69) = W0 at *
  clear hW
  refine (demand_yes (w.heap.size + 1) (0) (.slice a n cap) _ _ HS0.out.2.2).mono ?_
  rintro e w' ⟨rfl, hw⟩
  rw [hw]
  clear hw
  go_wp2_with fail
  refine (demand_no (w.heap.size + 1) (0) (.slice a n cap) _ _ HS0.out.2.2).mono ?_
  rintro e X1 ⟨rfl, hc, hg⟩
  have HS1 := hide (HS0.out.moved hg hc)
  clear hc hg HS0
  go_wp2_with fail
  refine (demand_err (w.heap.size + 1) (0) (.slice a n cap) 2 _ _ _ HS1.out.2.2).mono ?_
  rintro e w' ⟨rfl, hw⟩
  rw [hw]
  clear hw
  have HT2 := hide (DS1.start HS1.out #[.int .i64 0, .int .i64 0, .int .i64 0, .int .i64 0, .int .i64 0, .int .i64 0, .int .i64 0, .bool false, .int .i64 0, .bool false, .slice none 0 0, .slice none 0 0] 31)
  have hF : w.heap.size + 1 < X1.heap.size := HS1.out.2.2.lt
  clear HS1
  go_wp2_with fail
  generalize hV : X1.alloc (.cells #[.int .i64 0, .int .i64 0, .int .i64 0, .int .i64 0, .int .i64 0, .int .i64 0, .int .i64 0, .bool false, .int .i64 0, .bool false, .slice none 0 0, .slice none 0 0] 31) = X2 at *
  clear hV
  generalize X1.heap.size = F at *
  refine (take_err (w.heap.size + 1) (0) n cap _ 2 2 _ HT2.out.1.2.2 (by omega) (by omega) (by omega) (by omega)).mono ?_
  rintro e w' ⟨rfl, mm, rfl⟩
  have HT3 : Hid (DS1 w (X2.drewN mm) #[.int .i64 0, .int .i64 0, .int .i64 0, .int .i64 0, .int .i64 0, .int .i64 0, .int .i64 0, .bool false, .int .i64 0, .bool false, .slice none 0 0, .slice none 0 0] 31 (.slice a n cap) (0) (wErr 2) F #[.int .i64 0, .int .i64 0, .int .i64 0, .int .i64 0, .int .i64 0, .int .i64 0, .int .i64 0, .bool false, .int .i64 0, .bool false, .slice none 0 0, .slice none 0 0] 31) := hide (HT2.out.drewN mm)
  generalize X2.drewN mm = X3 at *
  clear HT2
  have k0 := HT3.out.2.1.cell 0 _ rfl
  have fz := HT3.out.2.1.frozen
  have HT4 : Hid (DS1 w (X3.setCell ⟨F, 0, none⟩ (.int .i64 0)) #[.int .i64 0, .int .i64 0, .int .i64 0, .int .i64 0, .int .i64 0, .int .i64 0, .int .i64 0, .bool false, .int .i64 0, .bool false, .slice none 0 0, .slice none 0 0] 31 (.slice a n cap) (0) (wErr 2) F #[.int .i64 0, .int .i64 0, .int .i64 0, .int .i64 0, .int .i64 0, .int .i64 0, .int .i64 0, .bool false, .int .i64 0, .bool false, .slice none 0 0, .slice none 0 0] 31) := hide (HT3.out.set 0 (.int .i64 0))
  go_wp2_with fail
  generalize X3.setCell ⟨F, 0, none⟩ (.int .i64 0) = X4 at *
  clear k0 fz HT3
  refine (take_err (w.heap.size + 1) (0) n cap _ 2 2 _ HT4.out.1.2.2 (by omega) (by omega) (by omega) (by omega)).mono ?_
  rintro e w' ⟨rfl, mm, rfl⟩
  have HT5 : Hid (DS1 w (X4.drewN mm) #[.int .i64 0, .int .i64 0, .int .i64 0, .int .i64 0, .int .i64 0, .int .i64 0, .int .i64 0, .bool false, .int .i64 0, .bool false, .slice none 0 0, .slice none 0 0] 31 (.slice a n cap) (0) (wErr 2) F #[.int .i64 0, .int .i64 0, .int .i64 0, .int .i64 0, .int .i64 0, .int .i64 0, .int .i64 0, .bool false, .int .i64 0, .bool false, .slice none 0 0, .slice none 0 0] 31) := hide (HT4.out.drewN mm)
  generalize X4.drewN mm = X5 at *
  clear HT4
  have k0 := HT5.out.2.1.cell 1 _ rfl
  have fz := HT5.out.2.1.frozen
  have HT6 : Hid (DS1 w (X5.setCell ⟨F, 1, none⟩ (.int .i64 0)) #[.int .i64 0, .int .i64 0, .int .i64 0, .int .i64 0, .int .i64 0, .int .i64 0, .int .i64 0, .bool false, .int .i64 0, .bool false, .slice none 0 0, .slice none 0 0] 31 (.slice a n cap) (0) (wErr 2) F #[.int .i64 0, .int .i64 0, .int .i64 0, .int .i64 0, .int .i64 0, .int .i64 0, .int .i64 0, .bool false, .int .i64 0, .bool false, .slice none 0 0, .slice none 0 0] 31) := hide (HT5.out.set 1 (.int .i64 0))
  go_wp2_with fail
  generalize X5.setCell ⟨F, 1, none⟩ (.int .i64 0) = X6 at *
  clear k0 fz HT5
  refine (take_err (w.heap.size + 1) (0) n cap _ 2 4 _ HT6.out.1.2.2 (by omega) (by omega) (by omega) (by omega)).mono ?_
  rintro e w' ⟨rfl, mm, rfl⟩
  have HT7 : Hid (DS1 w (X6.drewN mm) #[.int .i64 0, .int .i64 0, .int .i64 0, .int .i64 0, .int .i64 0, .int .i64 0, .int .i64 0, .bool false, .int .i64 0, .bool false, .slice none 0 0, .slice none 0 0] 31 (.slice a n cap) (0) (wErr 2) F #[.int .i64 0, .int .i64 0, .int .i64 0, .int .i64 0, .int .i64 0, .int .i64 0, .int .i64 0, .bool false, .int .i64 0, .bool false, .slice none 0 0, .slice none 0 0] 31) := hide (HT6.out.drewN mm)
  generalize X6.drewN mm = X7 at *
  clear HT6
  have k0 := HT7.out.2.1.cell 2 _ rfl
  have fz := HT7.out.2.1.frozen
  have HT8 : Hid (DS1 w (X7.setCell ⟨F, 2, none⟩ (.int .i64 0)) #[.int .i64 0, .int .i64 0, .int .i64 0, .int .i64 0, .int .i64 0, .int .i64 0, .int .i64 0, .bool false, .int .i64 0, .bool false, .slice none 0 0, .slice none 0 0] 31 (.slice a n cap) (0) (wErr 2) F #[.int .i64 0, .int .i64 0, .int .i64 0, .int .i64 0, .int .i64 0, .int .i64 0, .int .i64 0, .bool false, .int .i64 0, .bool false, .slice none 0 0, .slice none 0 0] 31) := hide (HT7.out.set 2 (.int .i64 0))
  go_wp2_with fail
  generalize X7.setCell ⟨F, 2, none⟩ (.int .i64 0) = X8 at *
  clear k0 fz HT7
  refine (take_err (w.heap.size + 1) (0) n cap _ 2 4 _ HT8.out.1.2.2 (by omega) (by omega) (by omega) (by omega)).mono ?_
  rintro e w' ⟨rfl, mm, rfl⟩
  have HT9 : Hid (DS1 w (X8.drewN mm) #[.int .i64 0, .int .i64 0, .int .i64 0, .int .i64 0, .int .i64 0, .int .i64 0, .int .i64 0, .bool false, .int .i64 0, .bool false, .slice none 0 0, .slice none 0 0] 31 (.slice a n cap) (0) (wErr 2) F #[.int .i64 0, .int .i64 0, .int .i64 0, .int .i64 0, .int .i64 0, .int .i64 0, .int .i64 0, .bool false, .int .i64 0, .bool false, .slice none 0 0, .slice none 0 0] 31) := hide (HT8.out.drewN mm)
  generalize X8.drewN mm = X9 at *
  clear HT8
  have k0 := HT9.out.2.1.cell 3 _ rfl
  have fz := HT9.out.2.1.frozen
  have HT10 : Hid (DS1 w (X9.setCell ⟨F, 3, none⟩ (.int .i64 0)) #[.int .i64 0, .int .i64 0, .int .i64 0, .int .i64 0, .int .i64 0, .int .i64 0, .int .i64 0, .bool false, .int .i64 0, .bool false, .slice none 0 0, .slice none 0 0] 31 (.slice a n cap) (0) (wErr 2) F #[.int .i64 0, .int .i64 0, .int .i64 0, .int .i64 0, .int .i64 0, .int .i64 0, .int .i64 0, .bool false, .int .i64 0, .bool false, .slice none 0 0, .slice none 0 0] 31) := hide (HT9.out.set 3 (.int .i64 0))
  go_wp2_with fail
  generalize X9.setCell ⟨F, 3, none⟩ (.int .i64 0) = X10 at *
  clear k0 fz HT9
  refine (take_err (w.heap.size + 1) (0) n cap _ 2 1 _ HT10.out.1.2.2 (by omega) (by omega) (by omega) (by omega)).mono ?_
  rintro e w' ⟨rfl, mm, rfl⟩
  have HT11 : Hid (DS1 w (X10.drewN mm) #[.int .i64 0, .int .i64 0, .int .i64 0, .int .i64 0, .int .i64 0, .int .i64 0, .int .i64 0, .bool false, .int .i64 0, .bool false, .slice none 0 0, .slice none 0 0] 31 (.slice a n cap) (0) (wErr 2) F #[.int .i64 0, .int .i64 0, .int .i64 0, .int .i64 0, .int .i64 0, .int .i64 0, .int .i64 0, .bool false, .int .i64 0, .bool false, .slice none 0 0, .slice none 0 0] 31) := hide (HT10.out.drewN mm)
  generalize X10.drewN mm = X11 at *
  clear HT10
  go_wp2_with fail
  refine (demand_err (w.heap.size + 1) (0) (.slice a n cap) 2 _ _ _ HT11.out.1.2.2).mono ?_
  rintro e w' ⟨rfl, hw⟩
  rw [hw]
  clear hw
  go_wp2_with fail
  have cc := sumFH_walk a n cap s d 6 zs X11 HN.out (HA.out.below HT11.out.1.1 (Nat.le_refl _)) hm2
  generalize fsum s d 6 zs = fsv at cc
  have CC := hide cc
  clear cc
  refine CC.out.mono ?_
  rintro e X12 ⟨rfl, hb⟩
  have HT12 := hide (HT11.out.next hb)
  clear CC hb HT11
  go_wp2_with fail
  refine (demand_err (w.heap.size + 1) (0) (.slice a n cap) 2 _ _ _ HT12.out.1.2.2).mono ?_
  rintro e w' ⟨rfl, hw⟩
  rw [hw]
  clear hw
  go_wp2_with fail
  refine (take_err (w.heap.size + 1) (0) n cap _ 2 1 _ HT12.out.1.2.2 (by omega) (by omega) (by omega) (by omega)).mono ?_
  rintro e w' ⟨rfl, mm, rfl⟩
  have HT13 : Hid (DS1 w (X12.drewN mm) #[.int .i64 0, .int .i64 0, .int .i64 0, .int .i64 0, .int .i64 0, .int .i64 0, .int .i64 0, .bool false, .int .i64 0, .bool false, .slice none 0 0, .slice none 0 0] 31 (.slice a n cap) (0) (wErr 2) F #[.int .i64 0, .int .i64 0, .int .i64 0, .int .i64 0, .int .i64 0, .int .i64 0, .int .i64 0, .bool false, .int .i64 0, .bool false, .slice none 0 0, .slice none 0 0] 31) := hide (HT12.out.drewN mm)
  generalize X12.drewN mm = X13 at *
  clear HT12
  have k0 := HT13.out.2.1.cell 4 _ rfl
  have fz := HT13.out.2.1.frozen
  have HT14 : Hid (DS1 w (X13.setCell ⟨F, 4, none⟩ (.int .i64 0)) #[.int .i64 0, .int .i64 0, .int .i64 0, .int .i64 0, .int .i64 0, .int .i64 0, .int .i64 0, .bool false, .int .i64 0, .bool false, .slice none 0 0, .slice none 0 0] 31 (.slice a n cap) (0) (wErr 2) F #[.int .i64 0, .int .i64 0, .int .i64 0, .int .i64 0, .int .i64 0, .int .i64 0, .int .i64 0, .bool false, .int .i64 0, .bool false, .slice none 0 0, .slice none 0 0] 31) := hide (HT13.out.set 4 (.int .i64 0))
  go_wp2_with fail
  generalize X13.setCell ⟨F, 4, none⟩ (.int .i64 0) = X14 at *
  clear k0 fz HT13
  refine (take_err (w.heap.size + 1) (0) n cap _ 2 2 _ HT14.out.1.2.2 (by omega) (by omega) (by omega) (by omega)).mono ?_
  rintro e w' ⟨rfl, mm, rfl⟩
  have HT15 : Hid (DS1 w (X14.drewN mm) #[.int .i64 0, .int .i64 0, .int .i64 0, .int .i64 0, .int .i64 0, .int .i64 0, .int .i64 0, .bool false, .int .i64 0, .bool false, .slice none 0 0, .slice none 0 0] 31 (.slice a n cap) (0) (wErr 2) F #[.int .i64 0, .int .i64 0, .int .i64 0, .int .i64 0, .int .i64 0, .int .i64 0, .int .i64 0, .bool false, .int .i64 0, .bool false, .slice none 0 0, .slice none 0 0] 31) := hide (HT14.out.drewN mm)
  generalize X14.drewN mm = X15 at *
  clear HT14
  have k0 := HT15.out.2.1.cell 5 _ rfl
  have fz := HT15.out.2.1.frozen
  have HT16 : Hid (DS1 w (X15.setCell ⟨F, 5, none⟩ (.int .i64 0)) #[.int .i64 0, .int .i64 0, .int .i64 0, .int .i64 0, .int .i64 0, .int .i64 0, .int .i64 0, .bool false, .int .i64 0, .bool false, .slice none 0 0, .slice none 0 0] 31 (.slice a n cap) (0) (wErr 2) F #[.int .i64 0, .int .i64 0, .int .i64 0, .int .i64 0, .int .i64 0, .int .i64 0, .int .i64 0, .bool false, .int .i64 0, .bool false, .slice none 0 0, .slice none 0 0] 31) := hide (HT15.out.set 5 (.int .i64 0))
  go_wp2_with fail
  generalize X15.setCell ⟨F, 5, none⟩ (.int .i64 0) = X16 at *
  clear k0 fz HT15
  refine (pass_err (w.heap.size + 1) (0) n cap _ 2 (4) _ HT16.out.1.2.2 (by omega) (by omega) (by omega) (by omega)).mono ?_
  rintro e w' ⟨rfl, mm, rfl⟩
  have HT17 : Hid (DS1 w (X16.drewN mm) #[.int .i64 0, .int .i64 0, .int .i64 0, .int .i64 0, .int .i64 0, .int .i64 0, .int .i64 0, .bool false, .int .i64 0, .bool false, .slice none 0 0, .slice none 0 0] 31 (.slice a n cap) (0) (wErr 2) F #[.int .i64 0, .int .i64 0, .int .i64 0, .int .i64 0, .int .i64 0, .int .i64 0, .int .i64 0, .bool false, .int .i64 0, .bool false, .slice none 0 0, .slice none 0 0] 31) := hide (HT16.out.drewN mm)
  generalize X16.drewN mm = X17 at *
  clear HT16
  go_wp2_with fail
  refine (pass_err (w.heap.size + 1) (0) n cap _ 2 (-20) _ HT17.out.1.2.2 (by omega) (by omega) (by omega) (by omega)).mono ?_
  rintro e w' ⟨rfl, mm, rfl⟩
  have HT18 : Hid (DS1 w (X17.drewN mm) #[.int .i64 0, .int .i64 0, .int .i64 0, .int .i64 0, .int .i64 0, .int .i64 0, .int .i64 0, .bool false, .int .i64 0, .bool false, .slice none 0 0, .slice none 0 0] 31 (.slice a n cap) (0) (wErr 2) F #[.int .i64 0, .int .i64 0, .int .i64 0, .int .i64 0, .int .i64 0, .int .i64 0, .int .i64 0, .bool false, .int .i64 0, .bool false, .slice none 0 0, .slice none 0 0] 31) := hide (HT17.out.drewN mm)
  generalize X17.drewN mm = X18 at *
  clear HT17
  have HT19 := hide (HT18.out.next ((Below.refl X18.heap.size X18).alloc (Nat.le_refl _) (.cells #[.slice none 0 0, .int .i64 0, .nilIface] 69)))
  have HG : Hid (Cur (X18.alloc (.cells #[.slice none 0 0, .int .i64 0, .nilIface] 69)) X18.heap.size (.slice none 0 0) 0 .nilIface) := hide (heap_alloc_new _ _)
  have hFG : F < X18.heap.size := HT18.out.2.1.lt
  have hws : w.heap.size ≤ (X18.alloc (.cells #[.slice none 0 0, .int .i64 0, .nilIface] 69)).heap.size := HT19.out.1.1.size
  clear HT18
  go_wp2_with fail
  generalize X18.alloc (.cells #[.slice none 0 0, .int .i64 0, .nilIface] 69) = X19 at *
  generalize X18.heap.size = G at *
  refine (takeOpts_walk G F w.heap.size 0 0 none [] (0) (0) (0) (0) (0) (0) ⟨0, false, 0, false, []⟩ (.slice none 0 0) (.slice none 0 0) 0 X19 HG.out HT19.out.2.1 (OwnI.nil _ _ _ _) hws rfl (by omega) (by omega) ⟨by simp, fun j hj => by simp at hj⟩ (by omega) (fun h => absurd h (by omega))).mono ?_
  rintro e X20 ⟨rfl, qo, evo, st, vo, ro, hts, hres⟩
  obtain ⟨aa, na, ca, rfl⟩ : ∃ (aa : Option Addr) (na ca : Nat), vo = .slice aa na ca := by
    rcases hts.2.2.2.form with ⟨h, _⟩ | ⟨_, _, _, h, _⟩ <;> exact ⟨_, _, _, h⟩
  have HT20 := hide (DS1.opts (vs' := #[.int .i64 0, .int .i64 0, .int .i64 0, .int .i64 0, .int .i64 0, .int .i64 0, .int .i64 st.m, .bool st.hs, .int .i64 st.sc, .bool st.so, .slice aa na ca, .slice none 0 0]) HT19.out hts.1 (by omega) hts.2.2.1)
  have HO20 := hide hts.2.2.2
  have HQ := hide hts.2.1
  have HRS := hide hres
  clear hts hres HG HT19
  obtain rfl : evo = .nilIface := by
    rcases HRS.out with ⟨_, h2⟩ | ⟨h1, _⟩
    · exact h2
    · rw [rdO_end (.inl rfl)] at h1; cases h1
  obtain ⟨e0, e1, e2, ef⟩ := HQ.out.cells
  clear HRS
  go_wp2_with fail
  clear e0 e1 e2 ef HQ
  refine (demand_err (w.heap.size + 1) (0) (.slice a n cap) 2 _ _ _ HT20.out.1.2.2).mono ?_
  rintro e w' ⟨rfl, hw⟩
  rw [hw]
  clear hw
  go_wp2_with fail
  refine (left_walk (w.heap.size + 1) (0) n cap _ _ _ HT20.out.1.2.2 (by omega) (by omega)).mono ?_
  rintro e w' ⟨rfl, mm, rfl⟩
  have HT21 : Hid (DS1 w (X20.drewN mm) #[.int .i64 0, .int .i64 0, .int .i64 0, .int .i64 0, .int .i64 0, .int .i64 0, .int .i64 0, .bool false, .int .i64 0, .bool false, .slice none 0 0, .slice none 0 0] 31 (.slice a n cap) (0) (wErr 2) F #[.int .i64 0, .int .i64 0, .int .i64 0, .int .i64 0, .int .i64 0, .int .i64 0, .int .i64 st.m, .bool st.hs, .int .i64 st.sc, .bool st.so, .slice aa na ca, .slice none 0 0] 31) := hide (HT20.out.drewN mm)
  generalize X20.drewN mm = X21 at *
  clear HT20
  go_wp2_with fail
  refine (takeBytes_err (w.heap.size + 1) (0) n cap _ 2 ((n : Int) - ((0 : Nat) : Int)) X21 HT21.out.1.2.2 (by omega) (by omega) (by omega) (by omega)).mono ?_
  rintro e X22 ⟨rfl, hb⟩
  have HT22 := hide (HT21.out.next hb)
  clear hb HT21
  generalize X21.heap.size = XB at *
  have k0 := HT22.out.2.1.cell 11 _ rfl
  have fz := HT22.out.2.1.frozen
  have HT23 : Hid (DS1 w (X22.setCell ⟨F, 11, none⟩ (.slice (some ⟨XB, 0, none⟩) 0 0)) #[.int .i64 0, .int .i64 0, .int .i64 0, .int .i64 0, .int .i64 0, .int .i64 0, .int .i64 0, .bool false, .int .i64 0, .bool false, .slice none 0 0, .slice none 0 0] 31 (.slice a n cap) (0) (wErr 2) F #[.int .i64 0, .int .i64 0, .int .i64 0, .int .i64 0, .int .i64 0, .int .i64 0, .int .i64 st.m, .bool st.hs, .int .i64 st.sc, .bool st.so, .slice aa na ca, .slice (some ⟨XB, 0, none⟩) 0 0] 31) := hide (HT22.out.set 11 (.slice (some ⟨XB, 0, none⟩) 0 0))
  go_wp2_with fail
  generalize X22.setCell ⟨F, 11, none⟩ (.slice (some ⟨XB, 0, none⟩) 0 0) = X23 at *
  clear k0 fz HT22
  have HTD := hide (HT23.out.drew)
  have HE7 := hide (HE.out.below HTD.out.1.1 (Nat.le_refl _))
  clear HE
  have CA := hide (ansSegment_err (0) (0) (0) (0) (0) (0) (st.m) (st.hs) (st.sc) (st.so) aa na ca (some ⟨XB, 0, none⟩) 0 0 2 (by decide) X23.drew HE7.out)
  have HK : Hid (X23.drew.cell? ⟨F, 0, none⟩ = some (.int .i64 0) ∧ X23.drew.cell? ⟨F, 1, none⟩ = some (.int .i64 0) ∧ X23.drew.cell? ⟨F, 2, none⟩ = some (.int .i64 0) ∧ X23.drew.cell? ⟨F, 3, none⟩ = some (.int .i64 0) ∧ X23.drew.cell? ⟨F, 4, none⟩ = some (.int .i64 0) ∧ X23.drew.cell? ⟨F, 5, none⟩ = some (.int .i64 0) ∧ X23.drew.cell? ⟨F, 6, none⟩ = some (.int .i64 st.m) ∧ X23.drew.cell? ⟨F, 7, none⟩ = some (.bool st.hs) ∧ X23.drew.cell? ⟨F, 8, none⟩ = some (.int .i64 st.sc) ∧ X23.drew.cell? ⟨F, 9, none⟩ = some (.bool st.so) ∧ X23.drew.cell? ⟨F, 10, none⟩ = some (.slice aa na ca) ∧ X23.drew.cell? ⟨F, 11, none⟩ = some (.slice (some ⟨XB, 0, none⟩) 0 0) ∧ X23.drew.cell? ⟨w.heap.size + 1, 2, none⟩ = some (wErr 2)) := hide ⟨HTD.out.2.1.cell 0 _ rfl, HTD.out.2.1.cell 1 _ rfl, HTD.out.2.1.cell 2 _ rfl, HTD.out.2.1.cell 3 _ rfl, HTD.out.2.1.cell 4 _ rfl, HTD.out.2.1.cell 5 _ rfl, HTD.out.2.1.cell 6 _ rfl, HTD.out.2.1.cell 7 _ rfl, HTD.out.2.1.cell 8 _ rfl, HTD.out.2.1.cell 9 _ rfl, HTD.out.2.1.cell 10 _ rfl, HTD.out.2.1.cell 11 _ rfl, HTD.out.1.2.2.cells.2.2.1⟩
  have hRF : w.heap.size ≠ F := by omega
  have hRC : w.heap.size ≠ w.heap.size + 1 := by omega
  clear HT23 HE7
  go_region_held3 (fun w' => w'.cell? ⟨F, 0, none⟩ = some (.int .i64 0) ∧ w'.cell? ⟨F, 1, none⟩ = some (.int .i64 0) ∧ w'.cell? ⟨F, 2, none⟩ = some (.int .i64 0) ∧ w'.cell? ⟨F, 3, none⟩ = some (.int .i64 0) ∧ w'.cell? ⟨F, 4, none⟩ = some (.int .i64 0) ∧ w'.cell? ⟨F, 5, none⟩ = some (.int .i64 0) ∧ w'.cell? ⟨F, 6, none⟩ = some (.int .i64 st.m) ∧ w'.cell? ⟨F, 7, none⟩ = some (.bool st.hs) ∧ w'.cell? ⟨F, 8, none⟩ = some (.int .i64 st.sc) ∧ w'.cell? ⟨F, 9, none⟩ = some (.bool st.so) ∧ w'.cell? ⟨F, 10, none⟩ = some (.slice aa na ca) ∧ w'.cell? ⟨F, 11, none⟩ = some (.slice (some ⟨XB, 0, none⟩) 0 0) ∧ w'.cell? ⟨w.heap.size + 1, 2, none⟩ = some (wErr 2)) (first | with_reducible assumption | with_reducible exact HK.out | exact ⟨far12 hRF hk9.1, far12 hRF hk9.2.1, far12 hRF hk9.2.2.1, far12 hRF hk9.2.2.2.1, far12 hRF hk9.2.2.2.2.1, far12 hRF hk9.2.2.2.2.2.1, far12 hRF hk9.2.2.2.2.2.2.1, far12 hRF hk9.2.2.2.2.2.2.2.1, far12 hRF hk9.2.2.2.2.2.2.2.2.1, far12 hRF hk9.2.2.2.2.2.2.2.2.2.1, far12 hRF hk9.2.2.2.2.2.2.2.2.2.2.1, far12 hRF hk9.2.2.2.2.2.2.2.2.2.2.2.1, far12 hRC hk9.2.2.2.2.2.2.2.2.2.2.2.2⟩)
    ((go_at_call 49; refine CA.out.mono ?_; rintro e w8 ⟨rfl, hb8⟩; have hk9 : w8.cell? ⟨F, 0, none⟩ = some (.int .i64 0) ∧ w8.cell? ⟨F, 1, none⟩ = some (.int .i64 0) ∧ w8.cell? ⟨F, 2, none⟩ = some (.int .i64 0) ∧ w8.cell? ⟨F, 3, none⟩ = some (.int .i64 0) ∧ w8.cell? ⟨F, 4, none⟩ = some (.int .i64 0) ∧ w8.cell? ⟨F, 5, none⟩ = some (.int .i64 0) ∧ w8.cell? ⟨F, 6, none⟩ = some (.int .i64 st.m) ∧ w8.cell? ⟨F, 7, none⟩ = some (.bool st.hs) ∧ w8.cell? ⟨F, 8, none⟩ = some (.int .i64 st.sc) ∧ w8.cell? ⟨F, 9, none⟩ = some (.bool st.so) ∧ w8.cell? ⟨F, 10, none⟩ = some (.slice aa na ca) ∧ w8.cell? ⟨F, 11, none⟩ = some (.slice (some ⟨XB, 0, none⟩) 0 0) ∧ w8.cell? ⟨w.heap.size + 1, 2, none⟩ = some (wErr 2) := ⟨(HTD.out.next hb8).2.1.cell 0 _ rfl, (HTD.out.next hb8).2.1.cell 1 _ rfl, (HTD.out.next hb8).2.1.cell 2 _ rfl, (HTD.out.next hb8).2.1.cell 3 _ rfl, (HTD.out.next hb8).2.1.cell 4 _ rfl, (HTD.out.next hb8).2.1.cell 5 _ rfl, (HTD.out.next hb8).2.1.cell 6 _ rfl, (HTD.out.next hb8).2.1.cell 7 _ rfl, (HTD.out.next hb8).2.1.cell 8 _ rfl, (HTD.out.next hb8).2.1.cell 9 _ rfl, (HTD.out.next hb8).2.1.cell 10 _ rfl, (HTD.out.next hb8).2.1.cell 11 _ rfl, (HTD.out.next hb8).1.2.2.cells.2.2.1⟩; have d0 := (HTD.out.next hb8).1.2.1.cell 0 _ rfl; have d1 := (HTD.out.next hb8).1.2.1.cell 1 _ rfl; have d2 := (HTD.out.next hb8).1.2.1.cell 2 _ rfl; have d3 := (HTD.out.next hb8).1.2.1.cell 3 _ rfl; have d4 := (HTD.out.next hb8).1.2.1.cell 4 _ rfl; have d5 := (HTD.out.next hb8).1.2.1.cell 5 _ rfl; have d6 := (HTD.out.next hb8).1.2.1.cell 6 _ rfl; have d7 := (HTD.out.next hb8).1.2.1.cell 7 _ rfl; have d8 := (HTD.out.next hb8).1.2.1.cell 8 _ rfl; have d9 := (HTD.out.next hb8).1.2.1.cell 9 _ rfl; have d10 := (HTD.out.next hb8).1.2.1.cell 10 _ rfl; have d11 := (HTD.out.next hb8).1.2.1.cell 11 _ rfl; have fz := (HTD.out.next hb8).1.2.1.frozen))
  all_goals
    have HT9 := hide (HTD.out.next hb8)
    clear hb8 HTD CA HK hk9
    go_wp2_with fail
    refine ret12 (P := fun X => bodyPost Tryd.prog Tryd.f14 _ _ _ X) HT9.out.1.2.1 ?_
    intro W9 hr9 hg9
    have hb9 := HT9.out.1.1.grown hg9 HT9.out.1.1.size (fun k hk => by cases hk; exact Nat.le_refl _)
    clear hg9 fz d0 d1 d2 d3 d4 d5 d6 d7 d8 d9 d10 d11
    have r0 := hr9.cell 0 _ rfl; have r1 := hr9.cell 1 _ rfl; have r2 := hr9.cell 2 _ rfl; have r3 := hr9.cell 3 _ rfl; have r4 := hr9.cell 4 _ rfl; have r5 := hr9.cell 5 _ rfl; have r6 := hr9.cell 6 _ rfl; have r7 := hr9.cell 7 _ rfl; have r8 := hr9.cell 8 _ rfl; have r9 := hr9.cell 9 _ rfl; have r10 := hr9.cell 10 _ rfl; have r11 := hr9.cell 11 _ rfl
    exact bodyPost_ret (v := .tuple #[.agg #[.int .i64 0, .int .i64 0, .int .i64 0, .int .i64 0, .int .i64 0, .int .i64 0, .int .i64 0, .bool false, .int .i64 0, .bool false, .slice none 0 0, .slice none 0 0], .int .i64 2]) (by simp [results, Tryd.results14, go_sem, r0, r1, r2, r3, r4, r5, r6, r7, r8, r9, r10, r11]) rfl ⟨rfl, hb9⟩
end Go.Proofs.YtcnfnimgpiaamaaDoor
