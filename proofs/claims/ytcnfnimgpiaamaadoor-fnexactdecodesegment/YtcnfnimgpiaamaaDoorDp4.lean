/-
Contracts of functions of this seat.
-/
import Derived.Test.YtcnfnimgpiaamaaDoorRows
import Derived.WalkKit
import Derived.ProofKit
import Derived.OpenShut
import Derived.Test.YtcnfnimgpiaamaaDoorSdp
namespace Go.Proofs.YtcnfnimgpiaamaaDoor
open Go.ChangeShapes Go.WideShapes Go.ChangeAt Go.RowKit
set_option linter.unusedVariables false
set_option maxRecDepth 100000
set_option maxHeartbeats 16000000 in
theorem implDecS_ok (b off n cap : Nat) (s d : Int) (zs : List Int) (w : World) (hn : zs.length = n) (ha : Arr w (some ⟨b, off, none⟩) zs) (hm : n ≤ 1048576) (hcap : n ≤ cap) (h0 : adrB s = true) (h1 : adrB d = true) (h20 : 20 ≤ n) (hmx : n ≤ 65515) (y0 y1 y2 y3 y12 y13 y14 : Int) (hy0 : tnum ((zs.drop 0).take 2) = y0) (hy1 : tnum ((zs.drop 2).take 2) = y1) (hy2 : tnum ((zs.drop 4).take 4) = y2) (hy3 : tnum ((zs.drop 8).take 4) = y3) (hy12 : tnum ((zs.drop 12).take 1) = y12) (hy13 : tnum ((zs.drop 13).take 1) = y13) (hy14 : tnum ((zs.drop 14).take 2) = y14) (a0 : 0 ≤ y12) (a1 : y12 ≤ 255) (a2 : 0 ≤ y13) (a3 : y13 ≤ 255) (kq : Nat) (hkq : y12 / 16 * 4 = (kq : Int) + 20) (hkn : 20 + kq ≤ n) (hfs : fsum s d 6 zs = 0) (st' : OSt) (hrd : rdO ((zs.drop 20).take kq) ⟨0, false, 0, false, []⟩ = some st') (LB : List Int) (hyl : (zs.drop (20 + kq)).take (n - (20 + kq)) = LB) :
    Calls Tryd.prog 14 #[.slice (some ⟨b, off, none⟩) n cap, .int .i64 s, .int .i64 d] w fun e w' => ∃ v0 v1 : Value, e = .returned (.tuple #[.agg #[.int .i64 y0, .int .i64 y1, .int .i64 y2, .int .i64 y3, .int .i64 (y13 % 64), .int .i64 y14, .int .i64 st'.m, .bool st'.hs, .int .i64 st'.sc, .bool st'.so, v0, v1], .int .i64 0]) ∧ (∃ r, OwnI w' w.heap.size 53 2 v0 r st'.L) ∧ OwnB w' w.heap.size v1 LB ∧ (∀ b, v0.ownBlock = some b → v1.ownBlock ≠ some b) ∧ Below w.heap.size w w' := by
  have HS0 := hide (DS0.start w #[.int .i64 0, .int .i64 0, .int .i64 0, .int .i64 0, .int .i64 0, .int .i64 0, .int .i64 0, .bool false, .int .i64 0, .bool false, .slice none 0 0, .slice none 0 0] 31 (.slice (some ⟨b, off, none⟩) n cap))
  have HA := hide ha
  have HN := hide hn
  have hm2 : n ≤ 1048576 := by omega
  obtain ⟨_, _, ee, hbl, _⟩ := ha.2 0 (by omega)
  cases ee
  have hbne : b ≠ w.heap.size + 1 := by omega
  have HY0 := hide hy0
  have HY1 := hide hy1
  have HY2 := hide hy2
  have HY3 := hide hy3
  have HY12 := hide hy12
  have HY13 := hide hy13
  have HY14 := hide hy14
  clear hy0 hy1 hy2 hy3 hy12 hy13 hy14
  have hd1 : decide ((20 : Int) ≤ (n : Int)) = true := decide_eq_true (by omega)
  have hd2 : decide ((n : Int) ≤ 65515) = true := decide_eq_true (by omega)
  have hd3 : decide ((20 : Int) ≤ (kq : Int) + 20) = true := decide_eq_true (by omega)
  have hd4 : decide ((kq : Int) + 20 ≤ (n : Int)) = true := decide_eq_true (by omega)
  have hd6 : (kq : Int) + 20 - 20 = (kq : Int) := by omega
  have HFS := hide hfs
  have HRD := hide hrd
  clear hfs hrd
  have HYL := hide hyl
  clear hyl
  have e63 := and_63_i64 y13 a2 a3
  have hsh : y12 / 16 ≤ 15 := by omega
  have hsh0 : 0 ≤ y12 / 16 := by omega
  clear ha hn
  go_enter Tryd.func14, Tryd.ntmps14
  go_wp2_with (first | (go_at_call 42; refine (isAddr_walk _ _).mono ?_; rintro e w' ⟨rfl, rfl⟩))
  generalize hW : (w.alloc (.cells #[.int .i64 0, .int .i64 0, .int .i64 0, .int .i64 0, .int .i64 0, .int .i64 0, .int .i64 0, .bool false, .int .i64 0, .bool false, .slice none 0 0, .slice none 0 0] 31)).alloc (.cells #[.slice (some ⟨b, off, none⟩) n cap, .int .i64 0, .nilIface] 69) = W0 at *
  clear hW
  refine (demand_yes (w.heap.size + 1) (0) (.slice (some ⟨b, off, none⟩) n cap) _ _ HS0.out.2.2).mono ?_
  rintro e w' ⟨rfl, hw⟩
  rw [hw]
  clear hw
  go_wp2_with fail
  refine (demand_yes (w.heap.size + 1) (0) (.slice (some ⟨b, off, none⟩) n cap) _ _ HS0.out.2.2).mono ?_
  rintro e w' ⟨rfl, hw⟩
  rw [hw]
  clear hw
  go_wp2_with fail
  refine (demand_yes (w.heap.size + 1) (0) (.slice (some ⟨b, off, none⟩) n cap) _ _ HS0.out.2.2).mono ?_
  rintro e w' ⟨rfl, hw⟩
  rw [hw]
  clear hw
  have HT1 := hide (DS1.start HS0.out #[.int .i64 0, .int .i64 0, .int .i64 0, .int .i64 0, .int .i64 0, .int .i64 0, .int .i64 0, .bool false, .int .i64 0, .bool false, .slice none 0 0, .slice none 0 0] 31)
  have hF : w.heap.size + 1 < W0.heap.size := HS0.out.2.2.lt
  clear HS0
  go_wp2_with fail
  generalize hV : W0.alloc (.cells #[.int .i64 0, .int .i64 0, .int .i64 0, .int .i64 0, .int .i64 0, .int .i64 0, .int .i64 0, .bool false, .int .i64 0, .bool false, .slice none 0 0, .slice none 0 0] 31) = X1 at *
  clear hV
  generalize W0.heap.size = F at *
  have ct := take_ok (w.heap.size + 1) (0) n cap b off 2 zs X1 HT1.out.1.2.2 hm2 (by omega) (by omega) hcap HN.out (HA.out.below HT1.out.1.1 (Nat.le_refl _)) hbne (by omega)
  rw [HY0.out] at ct
  have C := hide ct
  clear ct
  refine C.out.mono ?_
  rintro e X2 ⟨rfl, hc, hg⟩
  have HT2 : Hid (DS1 w X2 #[.int .i64 0, .int .i64 0, .int .i64 0, .int .i64 0, .int .i64 0, .int .i64 0, .int .i64 0, .bool false, .int .i64 0, .bool false, .slice none 0 0, .slice none 0 0] 31 (.slice (some ⟨b, off, none⟩) n cap) (2) .nilIface F #[.int .i64 0, .int .i64 0, .int .i64 0, .int .i64 0, .int .i64 0, .int .i64 0, .int .i64 0, .bool false, .int .i64 0, .bool false, .slice none 0 0, .slice none 0 0] 31) := hide (HT1.out.moved hg hc)
  clear C hc hg HT1
  have k0 := HT2.out.2.1.cell 0 _ rfl
  have fz := HT2.out.2.1.frozen
  have HT3 : Hid (DS1 w (X2.setCell ⟨F, 0, none⟩ (.int .i64 y0)) #[.int .i64 0, .int .i64 0, .int .i64 0, .int .i64 0, .int .i64 0, .int .i64 0, .int .i64 0, .bool false, .int .i64 0, .bool false, .slice none 0 0, .slice none 0 0] 31 (.slice (some ⟨b, off, none⟩) n cap) (2) .nilIface F #[.int .i64 y0, .int .i64 0, .int .i64 0, .int .i64 0, .int .i64 0, .int .i64 0, .int .i64 0, .bool false, .int .i64 0, .bool false, .slice none 0 0, .slice none 0 0] 31) := hide (HT2.out.set 0 (.int .i64 y0))
  go_wp2_with fail
  generalize X2.setCell ⟨F, 0, none⟩ (.int .i64 y0) = X3 at *
  clear k0 fz HT2
  have ct := take_ok (w.heap.size + 1) (2) n cap b off 2 zs X3 HT3.out.1.2.2 hm2 (by omega) (by omega) hcap HN.out (HA.out.below HT3.out.1.1 (Nat.le_refl _)) hbne (by omega)
  rw [HY1.out] at ct
  have C := hide ct
  clear ct
  refine C.out.mono ?_
  rintro e X4 ⟨rfl, hc, hg⟩
  have HT4 : Hid (DS1 w X4 #[.int .i64 0, .int .i64 0, .int .i64 0, .int .i64 0, .int .i64 0, .int .i64 0, .int .i64 0, .bool false, .int .i64 0, .bool false, .slice none 0 0, .slice none 0 0] 31 (.slice (some ⟨b, off, none⟩) n cap) (4) .nilIface F #[.int .i64 y0, .int .i64 0, .int .i64 0, .int .i64 0, .int .i64 0, .int .i64 0, .int .i64 0, .bool false, .int .i64 0, .bool false, .slice none 0 0, .slice none 0 0] 31) := hide (HT3.out.moved hg hc)
  clear C hc hg HT3
  have k0 := HT4.out.2.1.cell 1 _ rfl
  have fz := HT4.out.2.1.frozen
  have HT5 : Hid (DS1 w (X4.setCell ⟨F, 1, none⟩ (.int .i64 y1)) #[.int .i64 0, .int .i64 0, .int .i64 0, .int .i64 0, .int .i64 0, .int .i64 0, .int .i64 0, .bool false, .int .i64 0, .bool false, .slice none 0 0, .slice none 0 0] 31 (.slice (some ⟨b, off, none⟩) n cap) (4) .nilIface F #[.int .i64 y0, .int .i64 y1, .int .i64 0, .int .i64 0, .int .i64 0, .int .i64 0, .int .i64 0, .bool false, .int .i64 0, .bool false, .slice none 0 0, .slice none 0 0] 31) := hide (HT4.out.set 1 (.int .i64 y1))
  go_wp2_with fail
  generalize X4.setCell ⟨F, 1, none⟩ (.int .i64 y1) = X5 at *
  clear k0 fz HT4
  have ct := take_ok (w.heap.size + 1) (4) n cap b off 4 zs X5 HT5.out.1.2.2 hm2 (by omega) (by omega) hcap HN.out (HA.out.below HT5.out.1.1 (Nat.le_refl _)) hbne (by omega)
  rw [HY2.out] at ct
  have C := hide ct
  clear ct
  refine C.out.mono ?_
  rintro e X6 ⟨rfl, hc, hg⟩
  have HT6 : Hid (DS1 w X6 #[.int .i64 0, .int .i64 0, .int .i64 0, .int .i64 0, .int .i64 0, .int .i64 0, .int .i64 0, .bool false, .int .i64 0, .bool false, .slice none 0 0, .slice none 0 0] 31 (.slice (some ⟨b, off, none⟩) n cap) (8) .nilIface F #[.int .i64 y0, .int .i64 y1, .int .i64 0, .int .i64 0, .int .i64 0, .int .i64 0, .int .i64 0, .bool false, .int .i64 0, .bool false, .slice none 0 0, .slice none 0 0] 31) := hide (HT5.out.moved hg hc)
  clear C hc hg HT5
  have k0 := HT6.out.2.1.cell 2 _ rfl
  have fz := HT6.out.2.1.frozen
  have HT7 : Hid (DS1 w (X6.setCell ⟨F, 2, none⟩ (.int .i64 y2)) #[.int .i64 0, .int .i64 0, .int .i64 0, .int .i64 0, .int .i64 0, .int .i64 0, .int .i64 0, .bool false, .int .i64 0, .bool false, .slice none 0 0, .slice none 0 0] 31 (.slice (some ⟨b, off, none⟩) n cap) (8) .nilIface F #[.int .i64 y0, .int .i64 y1, .int .i64 y2, .int .i64 0, .int .i64 0, .int .i64 0, .int .i64 0, .bool false, .int .i64 0, .bool false, .slice none 0 0, .slice none 0 0] 31) := hide (HT6.out.set 2 (.int .i64 y2))
  go_wp2_with fail
  generalize X6.setCell ⟨F, 2, none⟩ (.int .i64 y2) = X7 at *
  clear k0 fz HT6
  have ct := take_ok (w.heap.size + 1) (8) n cap b off 4 zs X7 HT7.out.1.2.2 hm2 (by omega) (by omega) hcap HN.out (HA.out.below HT7.out.1.1 (Nat.le_refl _)) hbne (by omega)
  rw [HY3.out] at ct
  have C := hide ct
  clear ct
  refine C.out.mono ?_
  rintro e X8 ⟨rfl, hc, hg⟩
  have HT8 : Hid (DS1 w X8 #[.int .i64 0, .int .i64 0, .int .i64 0, .int .i64 0, .int .i64 0, .int .i64 0, .int .i64 0, .bool false, .int .i64 0, .bool false, .slice none 0 0, .slice none 0 0] 31 (.slice (some ⟨b, off, none⟩) n cap) (12) .nilIface F #[.int .i64 y0, .int .i64 y1, .int .i64 y2, .int .i64 0, .int .i64 0, .int .i64 0, .int .i64 0, .bool false, .int .i64 0, .bool false, .slice none 0 0, .slice none 0 0] 31) := hide (HT7.out.moved hg hc)
  clear C hc hg HT7
  have k0 := HT8.out.2.1.cell 3 _ rfl
  have fz := HT8.out.2.1.frozen
  have HT9 : Hid (DS1 w (X8.setCell ⟨F, 3, none⟩ (.int .i64 y3)) #[.int .i64 0, .int .i64 0, .int .i64 0, .int .i64 0, .int .i64 0, .int .i64 0, .int .i64 0, .bool false, .int .i64 0, .bool false, .slice none 0 0, .slice none 0 0] 31 (.slice (some ⟨b, off, none⟩) n cap) (12) .nilIface F #[.int .i64 y0, .int .i64 y1, .int .i64 y2, .int .i64 y3, .int .i64 0, .int .i64 0, .int .i64 0, .bool false, .int .i64 0, .bool false, .slice none 0 0, .slice none 0 0] 31) := hide (HT8.out.set 3 (.int .i64 y3))
  go_wp2_with fail
  generalize X8.setCell ⟨F, 3, none⟩ (.int .i64 y3) = X9 at *
  clear k0 fz HT8
  have ct := take_ok (w.heap.size + 1) (12) n cap b off 1 zs X9 HT9.out.1.2.2 hm2 (by omega) (by omega) hcap HN.out (HA.out.below HT9.out.1.1 (Nat.le_refl _)) hbne (by omega)
  rw [HY12.out] at ct
  have C := hide ct
  clear ct
  refine C.out.mono ?_
  rintro e X10 ⟨rfl, hc, hg⟩
  have HT10 : Hid (DS1 w X10 #[.int .i64 0, .int .i64 0, .int .i64 0, .int .i64 0, .int .i64 0, .int .i64 0, .int .i64 0, .bool false, .int .i64 0, .bool false, .slice none 0 0, .slice none 0 0] 31 (.slice (some ⟨b, off, none⟩) n cap) (13) .nilIface F #[.int .i64 y0, .int .i64 y1, .int .i64 y2, .int .i64 y3, .int .i64 0, .int .i64 0, .int .i64 0, .bool false, .int .i64 0, .bool false, .slice none 0 0, .slice none 0 0] 31) := hide (HT9.out.moved hg hc)
  clear C hc hg HT9
  go_wp2_with fail
  refine (demand_yes (w.heap.size + 1) (13) (.slice (some ⟨b, off, none⟩) n cap) _ _ HT10.out.1.2.2).mono ?_
  rintro e w' ⟨rfl, hw⟩
  rw [hw]
  clear hw
  go_wp2_with fail
  have cc := sumFH_walk (some ⟨b, off, none⟩) n cap s d 6 zs X10 HN.out (HA.out.below HT10.out.1.1 (Nat.le_refl _)) hm2
  rw [HFS.out] at cc
  have CC := hide cc
  clear cc
  refine CC.out.mono ?_
  rintro e X11 ⟨rfl, hb⟩
  have HT11 := hide (HT10.out.next hb)
  clear CC hb HT10
  go_wp2_with fail
  refine (demand_yes (w.heap.size + 1) (13) (.slice (some ⟨b, off, none⟩) n cap) _ _ HT11.out.1.2.2).mono ?_
  rintro e w' ⟨rfl, hw⟩
  rw [hw]
  clear hw
  go_wp2_with fail
  have ct := take_ok (w.heap.size + 1) (13) n cap b off 1 zs X11 HT11.out.1.2.2 hm2 (by omega) (by omega) hcap HN.out (HA.out.below HT11.out.1.1 (Nat.le_refl _)) hbne (by omega)
  rw [HY13.out] at ct
  have C := hide ct
  clear ct
  refine C.out.mono ?_
  rintro e X12 ⟨rfl, hc, hg⟩
  have HT12 : Hid (DS1 w X12 #[.int .i64 0, .int .i64 0, .int .i64 0, .int .i64 0, .int .i64 0, .int .i64 0, .int .i64 0, .bool false, .int .i64 0, .bool false, .slice none 0 0, .slice none 0 0] 31 (.slice (some ⟨b, off, none⟩) n cap) (14) .nilIface F #[.int .i64 y0, .int .i64 y1, .int .i64 y2, .int .i64 y3, .int .i64 0, .int .i64 0, .int .i64 0, .bool false, .int .i64 0, .bool false, .slice none 0 0, .slice none 0 0] 31) := hide (HT11.out.moved hg hc)
  clear C hc hg HT11
  have k0 := HT12.out.2.1.cell 4 _ rfl
  have fz := HT12.out.2.1.frozen
  have HT13 : Hid (DS1 w (X12.setCell ⟨F, 4, none⟩ (.int .i64 (y13 % 64))) #[.int .i64 0, .int .i64 0, .int .i64 0, .int .i64 0, .int .i64 0, .int .i64 0, .int .i64 0, .bool false, .int .i64 0, .bool false, .slice none 0 0, .slice none 0 0] 31 (.slice (some ⟨b, off, none⟩) n cap) (14) .nilIface F #[.int .i64 y0, .int .i64 y1, .int .i64 y2, .int .i64 y3, .int .i64 (y13 % 64), .int .i64 0, .int .i64 0, .bool false, .int .i64 0, .bool false, .slice none 0 0, .slice none 0 0] 31) := hide (HT12.out.set 4 (.int .i64 (y13 % 64)))
  go_wp2_with fail
  generalize X12.setCell ⟨F, 4, none⟩ (.int .i64 (y13 % 64)) = X13 at *
  clear k0 fz HT12
  have ct := take_ok (w.heap.size + 1) (14) n cap b off 2 zs X13 HT13.out.1.2.2 hm2 (by omega) (by omega) hcap HN.out (HA.out.below HT13.out.1.1 (Nat.le_refl _)) hbne (by omega)
  rw [HY14.out] at ct
  have C := hide ct
  clear ct
  refine C.out.mono ?_
  rintro e X14 ⟨rfl, hc, hg⟩
  have HT14 : Hid (DS1 w X14 #[.int .i64 0, .int .i64 0, .int .i64 0, .int .i64 0, .int .i64 0, .int .i64 0, .int .i64 0, .bool false, .int .i64 0, .bool false, .slice none 0 0, .slice none 0 0] 31 (.slice (some ⟨b, off, none⟩) n cap) (16) .nilIface F #[.int .i64 y0, .int .i64 y1, .int .i64 y2, .int .i64 y3, .int .i64 (y13 % 64), .int .i64 0, .int .i64 0, .bool false, .int .i64 0, .bool false, .slice none 0 0, .slice none 0 0] 31) := hide (HT13.out.moved hg hc)
  clear C hc hg HT13
  have k0 := HT14.out.2.1.cell 5 _ rfl
  have fz := HT14.out.2.1.frozen
  have HT15 : Hid (DS1 w (X14.setCell ⟨F, 5, none⟩ (.int .i64 y14)) #[.int .i64 0, .int .i64 0, .int .i64 0, .int .i64 0, .int .i64 0, .int .i64 0, .int .i64 0, .bool false, .int .i64 0, .bool false, .slice none 0 0, .slice none 0 0] 31 (.slice (some ⟨b, off, none⟩) n cap) (16) .nilIface F #[.int .i64 y0, .int .i64 y1, .int .i64 y2, .int .i64 y3, .int .i64 (y13 % 64), .int .i64 y14, .int .i64 0, .bool false, .int .i64 0, .bool false, .slice none 0 0, .slice none 0 0] 31) := hide (HT14.out.set 5 (.int .i64 y14))
  go_wp2_with fail
  generalize X14.setCell ⟨F, 5, none⟩ (.int .i64 y14) = X15 at *
  clear k0 fz HT14
  have C := hide (pass_anyk (w.heap.size + 1) (16) n cap b off (4) zs X15 HT15.out.1.2.2 hm2 (by omega) hcap (HA.out.below HT15.out.1.1 (Nat.le_refl _)) hbne)
  refine C.out.mono ?_
  rintro e X16 ⟨ap, rfl, hap, hpa, hc, hg⟩
  have HT16 : Hid (DS1 w X16 #[.int .i64 0, .int .i64 0, .int .i64 0, .int .i64 0, .int .i64 0, .int .i64 0, .int .i64 0, .bool false, .int .i64 0, .bool false, .slice none 0 0, .slice none 0 0] 31 (.slice (some ⟨b, off, none⟩) n cap) (16 + (4)) .nilIface F #[.int .i64 y0, .int .i64 y1, .int .i64 y2, .int .i64 y3, .int .i64 (y13 % 64), .int .i64 y14, .int .i64 0, .bool false, .int .i64 0, .bool false, .slice none 0 0, .slice none 0 0] 31) := hide (HT15.out.moved hg hc)
  have HAP := hide hap
  have HPA := hide hpa
  clear C hc hg hap hpa HT15
  go_wp2_with fail
  clear HAP HPA
  have C := hide (pass_anyk (w.heap.size + 1) (20) n cap b off (kq) zs X16 HT16.out.1.2.2 hm2 (by omega) hcap (HA.out.below HT16.out.1.1 (Nat.le_refl _)) hbne)
  refine C.out.mono ?_
  rintro e X17 ⟨ap, rfl, hap, hpa, hc, hg⟩
  have HT17 : Hid (DS1 w X17 #[.int .i64 0, .int .i64 0, .int .i64 0, .int .i64 0, .int .i64 0, .int .i64 0, .int .i64 0, .bool false, .int .i64 0, .bool false, .slice none 0 0, .slice none 0 0] 31 (.slice (some ⟨b, off, none⟩) n cap) (20 + (kq)) .nilIface F #[.int .i64 y0, .int .i64 y1, .int .i64 y2, .int .i64 y3, .int .i64 (y13 % 64), .int .i64 y14, .int .i64 0, .bool false, .int .i64 0, .bool false, .slice none 0 0, .slice none 0 0] 31) := hide (HT16.out.moved hg hc)
  have HAP := hide hap
  have HPA := hide hpa
  clear C hc hg hap hpa HT16
  have HT18 := hide (HT17.out.next ((Below.refl X17.heap.size X17).alloc (Nat.le_refl _) (.cells #[.slice ap kq (cap - 20), .int .i64 0, .nilIface] 69)))
  have HG : Hid (Cur (X17.alloc (.cells #[.slice ap kq (cap - 20), .int .i64 0, .nilIface] 69)) X17.heap.size (.slice ap kq (cap - 20)) 0 .nilIface) := hide (heap_alloc_new _ _)
  have hFG : F < X17.heap.size := HT17.out.2.1.lt
  have HPB := hide (HPA.out.below ((Below.refl X17.heap.size X17).alloc (Nat.le_refl _) (.cells #[.slice ap kq (cap - 20), .int .i64 0, .nilIface] 69)) (Nat.le_refl _))
  clear HPA
  have hws : w.heap.size ≤ (X17.alloc (.cells #[.slice ap kq (cap - 20), .int .i64 0, .nilIface] 69)).heap.size := HT18.out.1.1.size
  clear HT17
  go_wp2_with fail
  generalize X17.alloc (.cells #[.slice ap kq (cap - 20), .int .i64 0, .nilIface] 69) = X18 at *
  generalize X17.heap.size = G at *
  refine (takeOpts_walk G F w.heap.size kq (cap - 20) ap ((zs.drop 20).take kq) (y0) (y1) (y2) (y3) ((y13 % 64)) (y14) ⟨0, false, 0, false, []⟩ (.slice none 0 0) (.slice none 0 0) 0 X18 HG.out HT18.out.2.1 (OwnI.nil _ _ _ _) hws (by rw [List.length_take, List.length_drop, HN.out]; omega) (by omega) (by omega) HPB.out (by omega) (fun h b1 o1 e => by rw [HAP.out h] at e; cases e; exact ⟨by omega, by omega⟩)).mono ?_
  rintro e X19 ⟨rfl, qo, evo, st, vo, ro, hts, hres⟩
  obtain ⟨aa, na, ca, rfl⟩ : ∃ (aa : Option Addr) (na ca : Nat), vo = .slice aa na ca := by
    rcases hts.2.2.2.form with ⟨h, _⟩ | ⟨_, _, _, h, _⟩ <;> exact ⟨_, _, _, h⟩
  have HT19 := hide (DS1.opts (vs' := #[.int .i64 y0, .int .i64 y1, .int .i64 y2, .int .i64 y3, .int .i64 (y13 % 64), .int .i64 y14, .int .i64 st.m, .bool st.hs, .int .i64 st.sc, .bool st.so, .slice aa na ca, .slice none 0 0]) HT18.out hts.1 (by omega) hts.2.2.1)
  have HO19 := hide hts.2.2.2
  have HQ := hide hts.2.1
  have HRS := hide hres
  clear hts hres HG HT18
  obtain ⟨hst, rfl⟩ : some st = some st' ∧ evo = .nilIface := by
    rcases HRS.out with ⟨h1, h2⟩ | ⟨h1, _⟩
    · exact ⟨h1.symm.trans HRD.out, h2⟩
    · rw [HRD.out] at h1; cases h1
  have hst := Option.some.inj hst
  subst hst
  obtain ⟨e0, e1, e2, ef⟩ := HQ.out.cells
  clear HRS
  go_wp2_with fail
  clear e0 e1 e2 ef HQ
  refine (demand_yes (w.heap.size + 1) (20 + (kq)) (.slice (some ⟨b, off, none⟩) n cap) _ _ HT19.out.1.2.2).mono ?_
  rintro e w' ⟨rfl, hw⟩
  rw [hw]
  clear hw
  go_wp2_with fail
  refine (left_walk (w.heap.size + 1) (20 + (kq)) n cap _ _ _ HT19.out.1.2.2 (by omega) (by omega)).mono ?_
  rintro e w' ⟨rfl, mm, rfl⟩
  have HT20 : Hid (DS1 w (X19.drewN mm) #[.int .i64 0, .int .i64 0, .int .i64 0, .int .i64 0, .int .i64 0, .int .i64 0, .int .i64 0, .bool false, .int .i64 0, .bool false, .slice none 0 0, .slice none 0 0] 31 (.slice (some ⟨b, off, none⟩) n cap) (20 + (kq)) .nilIface F #[.int .i64 y0, .int .i64 y1, .int .i64 y2, .int .i64 y3, .int .i64 (y13 % 64), .int .i64 y14, .int .i64 st.m, .bool st.hs, .int .i64 st.sc, .bool st.so, .slice aa na ca, .slice none 0 0] 31) := hide (HT19.out.drewN mm)
  have HO20 : Hid (OwnI (X19.drewN mm) w.heap.size 53 2 (.slice aa na ca) ro st.L) := hide HO19.out
  generalize X19.drewN mm = X20 at *
  clear HT19
  go_wp2_with fail
  have hFl := HT20.out.2.1.lt
  have hwl : w.heap.size ≤ X20.heap.size := HT20.out.1.1.size
  have C := hide (takeBytes_any (w.heap.size + 1) (20 + (kq)) n cap b off (n - (20 + (kq))) zs X20 HT20.out.1.2.2 hm2 (by omega) hcap HN.out (HA.out.below HT20.out.1.1 (Nat.le_refl _)) hbne)
  rw [show ((n : Int) - (20 + (kq : Int))) = ((n - (20 + (kq)) : Nat) : Int) by omega]
  refine C.out.mono ?_
  rintro e X21 ⟨vb, rfl, hO, hc, hg⟩
  have HT21 : Hid (DS1 w X21 #[.int .i64 0, .int .i64 0, .int .i64 0, .int .i64 0, .int .i64 0, .int .i64 0, .int .i64 0, .bool false, .int .i64 0, .bool false, .slice none 0 0, .slice none 0 0] 31 (.slice (some ⟨b, off, none⟩) n cap) (20 + (kq) + (n - (20 + (kq)))) .nilIface F #[.int .i64 y0, .int .i64 y1, .int .i64 y2, .int .i64 y3, .int .i64 (y13 % 64), .int .i64 y14, .int .i64 st.m, .bool st.hs, .int .i64 st.sc, .bool st.so, .slice aa na ca, .slice none 0 0] 31) := hide (HT20.out.moved hg hc)
  have hcu := HT20.out.1.2.2
  have hne : ∀ x, (Value.slice aa na ca).ownBlock = some x → x ≠ w.heap.size + 1 := OwnI.ne_hold (T := 69) (vs := #[.slice (some ⟨b, off, none⟩) n cap, .int .i64 ((20 + (kq) : Nat) : Int), .nilIface]) HO20.out hcu (by decide)
  have HO21 : Hid (OwnI X21 w.heap.size 53 2 (.slice aa na ca) ro st.L) := hide (HO20.out.gr (b := w.heap.size + 1) (T := 69) (vs := #[.slice (some ⟨b, off, none⟩) n cap, .int .i64 ((20 + (kq) : Nat) : Int), .nilIface]) hcu (by decide) hg)
  have hap9 : ∀ b', (Value.slice aa na ca).ownBlock = some b' → vb.ownBlock ≠ some b' := by
    intro b' h1 h2
    have l1 := (ownsAt.lt HO20.out b' h1).2
    have l2 := (World.ownsRow.lt hO.1 b' h2).1
    omega
  have HAP9 := hide hap9
  rw [HYL.out] at hO
  have HB9 := hide hO
  obtain ⟨ab, lb, cb, eb⟩ : ∃ (x : Option Addr) (y z : Nat), vb = .slice x y z := by obtain ⟨x, z, e, _⟩ := own_slice hO; exact ⟨x, _, z, e⟩
  subst eb
  clear C hc hg hO hcu hne hap9 HT20 HO20
  have HB9b := hide (HB9.out.setBelow (a := ⟨F, 11, none⟩) hFl (.slice ab lb cb))
  have hXl : w.heap.size ≤ X21.heap.size := HT21.out.1.1.size
  have HO22 := hide (HO21.out.gr (b := F) HT21.out.2.1 (by decide) (grown_cell X21 F 11 (.slice ab lb cb)))
  clear HB9 HO21
  have k0 := HT21.out.2.1.cell 11 _ rfl
  have fz := HT21.out.2.1.frozen
  have HT22 : Hid (DS1 w (X21.setCell ⟨F, 11, none⟩ (.slice ab lb cb)) #[.int .i64 0, .int .i64 0, .int .i64 0, .int .i64 0, .int .i64 0, .int .i64 0, .int .i64 0, .bool false, .int .i64 0, .bool false, .slice none 0 0, .slice none 0 0] 31 (.slice (some ⟨b, off, none⟩) n cap) (20 + (kq) + (n - (20 + (kq)))) .nilIface F #[.int .i64 y0, .int .i64 y1, .int .i64 y2, .int .i64 y3, .int .i64 (y13 % 64), .int .i64 y14, .int .i64 st.m, .bool st.hs, .int .i64 st.sc, .bool st.so, .slice aa na ca, .slice ab lb cb] 31) := hide (HT21.out.set 11 (.slice ab lb cb))
  go_wp2_with fail
  generalize X21.setCell ⟨F, 11, none⟩ (.slice ab lb cb) = X22 at *
  clear k0 fz HT21
  have HTD := hide (HT22.out.drew)
  have HOD : Hid (OwnI X22.drew w.heap.size 53 2 (.slice aa na ca) ro st.L) := hide HO22.out
  have HBD := hide (HB9b.out.drew)
  have CA := hide (ansSegment_nil (y0) (y1) (y2) (y3) ((y13 % 64)) (y14) (st.m) (st.hs) (st.sc) (st.so) aa na ca ab lb cb X22.drew)
  have HK : Hid (X22.drew.cell? ⟨F, 0, none⟩ = some (.int .i64 y0) ∧ X22.drew.cell? ⟨F, 1, none⟩ = some (.int .i64 y1) ∧ X22.drew.cell? ⟨F, 2, none⟩ = some (.int .i64 y2) ∧ X22.drew.cell? ⟨F, 3, none⟩ = some (.int .i64 y3) ∧ X22.drew.cell? ⟨F, 4, none⟩ = some (.int .i64 (y13 % 64)) ∧ X22.drew.cell? ⟨F, 5, none⟩ = some (.int .i64 y14) ∧ X22.drew.cell? ⟨F, 6, none⟩ = some (.int .i64 st.m) ∧ X22.drew.cell? ⟨F, 7, none⟩ = some (.bool st.hs) ∧ X22.drew.cell? ⟨F, 8, none⟩ = some (.int .i64 st.sc) ∧ X22.drew.cell? ⟨F, 9, none⟩ = some (.bool st.so) ∧ X22.drew.cell? ⟨F, 10, none⟩ = some (.slice aa na ca) ∧ X22.drew.cell? ⟨F, 11, none⟩ = some (.slice ab lb cb) ∧ X22.drew.cell? ⟨w.heap.size + 1, 2, none⟩ = some .nilIface) := hide ⟨HTD.out.2.1.cell 0 _ rfl, HTD.out.2.1.cell 1 _ rfl, HTD.out.2.1.cell 2 _ rfl, HTD.out.2.1.cell 3 _ rfl, HTD.out.2.1.cell 4 _ rfl, HTD.out.2.1.cell 5 _ rfl, HTD.out.2.1.cell 6 _ rfl, HTD.out.2.1.cell 7 _ rfl, HTD.out.2.1.cell 8 _ rfl, HTD.out.2.1.cell 9 _ rfl, HTD.out.2.1.cell 10 _ rfl, HTD.out.2.1.cell 11 _ rfl, HTD.out.1.2.2.cells.2.2.1⟩
  have hRF : w.heap.size ≠ F := by omega
  have hRC : w.heap.size ≠ w.heap.size + 1 := by omega
  clear HT22 HO22 HB9b
  go_region_held3 (fun w' => w'.cell? ⟨F, 0, none⟩ = some (.int .i64 y0) ∧ w'.cell? ⟨F, 1, none⟩ = some (.int .i64 y1) ∧ w'.cell? ⟨F, 2, none⟩ = some (.int .i64 y2) ∧ w'.cell? ⟨F, 3, none⟩ = some (.int .i64 y3) ∧ w'.cell? ⟨F, 4, none⟩ = some (.int .i64 (y13 % 64)) ∧ w'.cell? ⟨F, 5, none⟩ = some (.int .i64 y14) ∧ w'.cell? ⟨F, 6, none⟩ = some (.int .i64 st.m) ∧ w'.cell? ⟨F, 7, none⟩ = some (.bool st.hs) ∧ w'.cell? ⟨F, 8, none⟩ = some (.int .i64 st.sc) ∧ w'.cell? ⟨F, 9, none⟩ = some (.bool st.so) ∧ w'.cell? ⟨F, 10, none⟩ = some (.slice aa na ca) ∧ w'.cell? ⟨F, 11, none⟩ = some (.slice ab lb cb) ∧ w'.cell? ⟨w.heap.size + 1, 2, none⟩ = some .nilIface) (first | with_reducible assumption | with_reducible exact HK.out | exact ⟨far12 hRF hk9.1, far12 hRF hk9.2.1, far12 hRF hk9.2.2.1, far12 hRF hk9.2.2.2.1, far12 hRF hk9.2.2.2.2.1, far12 hRF hk9.2.2.2.2.2.1, far12 hRF hk9.2.2.2.2.2.2.1, far12 hRF hk9.2.2.2.2.2.2.2.1, far12 hRF hk9.2.2.2.2.2.2.2.2.1, far12 hRF hk9.2.2.2.2.2.2.2.2.2.1, far12 hRF hk9.2.2.2.2.2.2.2.2.2.2.1, far12 hRF hk9.2.2.2.2.2.2.2.2.2.2.2.1, far12 hRC hk9.2.2.2.2.2.2.2.2.2.2.2.2⟩)
    ((go_at_call 49; refine CA.out.mono ?_; rintro e w8 ⟨rfl, hb8⟩; have hk9 : w8.cell? ⟨F, 0, none⟩ = some (.int .i64 y0) ∧ w8.cell? ⟨F, 1, none⟩ = some (.int .i64 y1) ∧ w8.cell? ⟨F, 2, none⟩ = some (.int .i64 y2) ∧ w8.cell? ⟨F, 3, none⟩ = some (.int .i64 y3) ∧ w8.cell? ⟨F, 4, none⟩ = some (.int .i64 (y13 % 64)) ∧ w8.cell? ⟨F, 5, none⟩ = some (.int .i64 y14) ∧ w8.cell? ⟨F, 6, none⟩ = some (.int .i64 st.m) ∧ w8.cell? ⟨F, 7, none⟩ = some (.bool st.hs) ∧ w8.cell? ⟨F, 8, none⟩ = some (.int .i64 st.sc) ∧ w8.cell? ⟨F, 9, none⟩ = some (.bool st.so) ∧ w8.cell? ⟨F, 10, none⟩ = some (.slice aa na ca) ∧ w8.cell? ⟨F, 11, none⟩ = some (.slice ab lb cb) ∧ w8.cell? ⟨w.heap.size + 1, 2, none⟩ = some .nilIface := ⟨(HTD.out.next hb8).2.1.cell 0 _ rfl, (HTD.out.next hb8).2.1.cell 1 _ rfl, (HTD.out.next hb8).2.1.cell 2 _ rfl, (HTD.out.next hb8).2.1.cell 3 _ rfl, (HTD.out.next hb8).2.1.cell 4 _ rfl, (HTD.out.next hb8).2.1.cell 5 _ rfl, (HTD.out.next hb8).2.1.cell 6 _ rfl, (HTD.out.next hb8).2.1.cell 7 _ rfl, (HTD.out.next hb8).2.1.cell 8 _ rfl, (HTD.out.next hb8).2.1.cell 9 _ rfl, (HTD.out.next hb8).2.1.cell 10 _ rfl, (HTD.out.next hb8).2.1.cell 11 _ rfl, (HTD.out.next hb8).1.2.2.cells.2.2.1⟩; have d0 := (HTD.out.next hb8).1.2.1.cell 0 _ rfl; have d1 := (HTD.out.next hb8).1.2.1.cell 1 _ rfl; have d2 := (HTD.out.next hb8).1.2.1.cell 2 _ rfl; have d3 := (HTD.out.next hb8).1.2.1.cell 3 _ rfl; have d4 := (HTD.out.next hb8).1.2.1.cell 4 _ rfl; have d5 := (HTD.out.next hb8).1.2.1.cell 5 _ rfl; have d6 := (HTD.out.next hb8).1.2.1.cell 6 _ rfl; have d7 := (HTD.out.next hb8).1.2.1.cell 7 _ rfl; have d8 := (HTD.out.next hb8).1.2.1.cell 8 _ rfl; have d9 := (HTD.out.next hb8).1.2.1.cell 9 _ rfl; have d10 := (HTD.out.next hb8).1.2.1.cell 10 _ rfl; have d11 := (HTD.out.next hb8).1.2.1.cell 11 _ rfl; have fz := (HTD.out.next hb8).1.2.1.frozen))
  all_goals
    have HT9 := hide (HTD.out.next hb8)
    have HO9 := hide (HOD.out.next hb8)
    have HB9c := hide (HBD.out.next hb8)
    clear hb8 HTD CA HK hk9
    go_wp2_with fail
    refine ret12 (P := fun X => bodyPost Tryd.prog Tryd.f14 _ _ _ X) HT9.out.1.2.1 ?_
    intro W9 hr9 hg9
    have hb9 := HT9.out.1.1.grown hg9 HT9.out.1.1.size (fun k hk => by cases hk; exact Nat.le_refl _)
    have ho9 := HO9.out.gr HT9.out.1.2.1 (by decide) hg9
    have hv9 := own_gr HB9c.out hg9 (own_ned HB9c.out HT9.out.1.2.1 trivial)
    clear hg9 fz d0 d1 d2 d3 d4 d5 d6 d7 d8 d9 d10 d11
    have r0 := hr9.cell 0 _ rfl; have r1 := hr9.cell 1 _ rfl; have r2 := hr9.cell 2 _ rfl; have r3 := hr9.cell 3 _ rfl; have r4 := hr9.cell 4 _ rfl; have r5 := hr9.cell 5 _ rfl; have r6 := hr9.cell 6 _ rfl; have r7 := hr9.cell 7 _ rfl; have r8 := hr9.cell 8 _ rfl; have r9 := hr9.cell 9 _ rfl; have r10 := hr9.cell 10 _ rfl; have r11 := hr9.cell 11 _ rfl
    exact bodyPost_ret (v := .tuple #[.agg #[.int .i64 y0, .int .i64 y1, .int .i64 y2, .int .i64 y3, .int .i64 (y13 % 64), .int .i64 y14, .int .i64 st.m, .bool st.hs, .int .i64 st.sc, .bool st.so, .slice aa na ca, .slice ab lb cb], .int .i64 0]) (by simp [results, Tryd.results14, go_sem, r0, r1, r2, r3, r4, r5, r6, r7, r8, r9, r10, r11]) rfl ⟨_, _, rfl, ⟨_, ho9⟩, hv9.mono (by omega), HAP9.out, hb9⟩
end Go.Proofs.YtcnfnimgpiaamaaDoor
