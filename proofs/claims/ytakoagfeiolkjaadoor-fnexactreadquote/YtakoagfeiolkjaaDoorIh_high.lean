/-
Contracts of functions of this seat.
-/
import Derived.Test.YtakoagfeiolkjaaDoorRows
import Derived.WalkKit
import Derived.ProofKit
import Derived.OpenShut
import Derived.Test.YtakoagfeiolkjaaDoorIth
namespace Go.Proofs.YtakoagfeiolkjaaDoor
open Go.ChangeShapes Go.WideShapes Go.ChangeAt Go.RowKit
set_option linter.unusedVariables false
set_option maxRecDepth 100000
set_option maxHeartbeats 8000000 in
theorem takeHead_high (g F n cap b off : Nat) (zs : List Int) (w : World) (hc : Cur w g (.slice (some ⟨b, off, none⟩) n cap) 0 .nilIface) (hf : FR w F 0 0 0 0 0 0 0 0 0 (.slice none 0 0) (.slice none 0 0)) (hn : zs.length = n) (ha : Arr w (some ⟨b, off, none⟩) zs) (hm : n ≤ 1048576) (hcap : n ≤ cap) (h20 : 20 ≤ n) (hbg : b ≠ g) (hbF : b ≠ F) (hFg : F ≠ g) (y0 : Int) (hy0 : y0 = tnum ((zs.drop 0).take 1)) (hb0 : 0 ≤ y0) (hb1 : y0 ≤ 255) (hv : (y0 / 16 == 4) = true) (hs : (20 : Int) ≤ y0 % 16 * 4) (hs2 : decide (y0 % 16 * 4 ≤ (n : Int)) = false) :
    Calls Tryd.prog 24 #[.pointer (some ⟨F, 0, none⟩), .pointer (some ⟨g, 0, none⟩)] w fun e w' => ∃ (K p : Nat), e = .returned (.tuple #[]) ∧ Cur w' g (.slice (some ⟨b, off, none⟩) n cap) p (wErr 5) ∧ FR w' F y0 0 0 0 0 0 0 0 0 (.slice (some ⟨K, 0, none⟩) 0 0) (.slice none 0 0) ∧ Only [g, F] w w' ∧ p ≤ n := by
  have HA := hide ha
  have HN := hide hn
  have HNE : Hid (some g ≠ some F) := hide (by intro e; cases e; exact hFg rfl)
  have HNF : Hid (F ∉ [g]) := hide (by simp [hFg])
  have HAN : Hid (∀ j, j < zs.length → ∃ b' off', (some ⟨b, off, none⟩ : Option Addr) = some ⟨b', off', none⟩ ∧ b' ∉ [g, F]) := hide (fun j hj => ⟨b, off, rfl, by simp [hbg, hbF]⟩)
  have h20' : (20 : Int) ≤ (n : Int) := by omega
  have HY0 := hide hy0
  clear ha hn hy0
  have CL := hide (left0_walk g n cap (some ⟨b, off, none⟩) .nilIface w hc (by omega))
  have HC0 := hide hc
  have HF0 := hide hf
  clear hc hf
  go_enter Tryd.func24, Tryd.ntmps24
  go_wp2_with fail
  refine CL.out.mono ?_
  rintro e w1 ⟨rfl, m, rfl⟩
  have HC := hide (Cur.drewN (w := w) HC0.out m)
  have HF := hide (FR.drewN (w := w) HF0.out m)
  have HO : Hid (Only [g, F] w (w.drewN m)) := hide (only_drewN w m)
  clear HC0 HF0 CL
  generalize w.drewN m = W0 at *
  go_wp2_with fail
  refine (demand_yes g 0 _ 2 W0 HC.out).mono ?_
  rintro e v ⟨rfl, hv⟩
  rw [hv]
  clear hv
  go_wp2_with fail
  have t1 := tk1 g 0 n cap b off zs W0 HC.out (by omega) (by omega) hcap HN.out (arr_only HA.out HO.out HAN.out) hbg
  rw [show tnum ((zs.drop 0).take 1) = y0 from HY0.out.symm] at t1
  have T1 := hide t1
  clear t1
  refine T1.out.mono ?_
  rintro e u50 ⟨rfl, hc2, hg2⟩
  have HF2 := hide (HF.out.only (Only.of_some hg2) HNF.out)
  have HO2 := hide (HO.out.trans (only_g (F := F) hg2))
  obtain ⟨f0, f1, f2, f3, f4, f5, f6, f7, f8, f9, f10, ff⟩ := HF2.out.cells
  have HF3 := hide (HF2.out.set0 y0)
  have HC3 : Hid (Cur (u50.setCell ⟨F, 0, none⟩ (.int .i64 y0)) g (.slice (some ⟨b, off, none⟩) n cap) 1 .nilIface) := hide (hc2.kept (grown_cell u50 F 0 _) HNE.out)
  have HO3 := hide (HO2.out.trans (only_cell (g := g) 0 (.int .i64 y0)))
  clear T1 hc2 hg2 HC HF HO HF2 HO2
  go_wp2_with fail
  generalize hV : u50.setCell ⟨F, 0, none⟩ (.int .i64 y0) = V50 at *
  clear hV f0 f1 f2 f3 f4 f5 f6 f7 f8 f9 f10 ff
  have HC := HC3
  have HF := HF3
  have HO := HO3
  clear HC3 HF3 HO3
  obtain ⟨f0, f1, f2, f3, f4, f5, f6, f7, f8, f9, f10, ff⟩ := HF.out.cells
  refine (version_walk F y0 V50 f0).mono ?_
  rintro e v ⟨rfl, hv⟩
  rw [hv]
  clear hv f0 f1 f2 f3 f4 f5 f6 f7 f8 f9 f10 ff
  go_wp2_with fail
  refine (demand_yes g _ _ 4 V50 HC.out).mono ?_
  rintro e v ⟨rfl, hv⟩
  rw [hv]
  clear hv
  go_wp2_with fail
  have HC2 := hide (Cur.drew (w := V50) HC.out)
  have HF2 := hide (FR.drew (w := V50) HF.out)
  have HO2 := hide (HO.out.trans (only_drew V50))
  refine region_tail 14 (by kernel_rfl) (by kernel_rfl) ?_
  clear HC HF HO
  generalize V50.drew = VQ at *
  have HC := HC2
  have HF := HF2
  have HO := HO2
  clear HC2 HF2 HO2
  obtain ⟨f0, f1, f2, f3, f4, f5, f6, f7, f8, f9, f10, ff⟩ := HF.out.cells
  obtain ⟨c0, c1, c2, cf⟩ := HC.out.cells
  simp only [List.take_succ_cons, List.take_zero, List.drop_succ_cons, List.drop_zero]
  repeat (first | go_big_quiet_skip | (go_big_quiet_want; go_big_quiet_op; first | go_big_quiet_on | (apply Exists.intro; refine ⟨hsize_walk F y0 VQ f0, ?_⟩; go_big_quiet_on)))
  refine wpQuiet_nil ?_
  clear c0 c1 c2 cf f0 f1 f2 f3 f4 f5 f6 f7 f8 f9 f10 ff
  go_wp2_with fail
  refine (demand_no g _ _ 5 VQ HC.out).mono ?_
  rintro e V51 ⟨rfl, hc2, hg2⟩
  have HF2 := hide (HF.out.only (Only.of_some hg2) HNF.out)
  have HO2 := hide (HO.out.trans (only_g (F := F) hg2))
  have HC2 := hide hc2
  clear hc2 hg2 HC HF HO
  have HC := HC2
  have HF := HF2
  have HO := HO2
  clear HC2 HF2 HO2
  go_wp2_with fail
  refine (take_err g _ n cap (some ⟨b, off, none⟩) 5 1 V51 HC.out (by omega) (by omega) (by omega) (by omega)).mono ?_
  rintro e u60 ⟨rfl, m60, rfl⟩
  have HF2 := hide (FR.drewN (w := V51) HF.out m60)
  have HO2 := hide (HO.out.trans (only_drewN V51 m60))
  have HC2 := hide (Cur.drewN (w := V51) HC.out m60)
  generalize V51.drewN m60 = U60 at *
  obtain ⟨f0, f1, f2, f3, f4, f5, f6, f7, f8, f9, f10, ff⟩ := HF2.out.cells
  have HF3 := hide (HF2.out.set1 0)
  have HC3 := hide (HC2.out.kept (grown_cell U60 F 1 (.int .i64 0)) HNE.out)
  have HO3 := hide (HO2.out.trans (only_cell (g := g) 1 (.int .i64 0)))
  clear HC HF HO HF2 HO2 HC2
  go_wp2_with fail
  generalize hV : U60.setCell ⟨F, 1, none⟩ (.int .i64 0) = V60 at *
  clear hV f0 f1 f2 f3 f4 f5 f6 f7 f8 f9 f10 ff
  have HC := HC3
  have HF := HF3
  have HO := HO3
  clear HC3 HF3 HO3
  refine (take_err g _ n cap (some ⟨b, off, none⟩) 5 2 V60 HC.out (by omega) (by omega) (by omega) (by omega)).mono ?_
  rintro e u61 ⟨rfl, m61, rfl⟩
  have HF2 := hide (FR.drewN (w := V60) HF.out m61)
  have HO2 := hide (HO.out.trans (only_drewN V60 m61))
  have HC2 := hide (Cur.drewN (w := V60) HC.out m61)
  generalize V60.drewN m61 = U61 at *
  obtain ⟨f0, f1, f2, f3, f4, f5, f6, f7, f8, f9, f10, ff⟩ := HF2.out.cells
  have HF3 := hide (HF2.out.set2 0)
  have HC3 := hide (HC2.out.kept (grown_cell U61 F 2 (.int .i64 0)) HNE.out)
  have HO3 := hide (HO2.out.trans (only_cell (g := g) 2 (.int .i64 0)))
  clear HC HF HO HF2 HO2 HC2
  go_wp2_with fail
  generalize hV : U61.setCell ⟨F, 2, none⟩ (.int .i64 0) = V61 at *
  clear hV f0 f1 f2 f3 f4 f5 f6 f7 f8 f9 f10 ff
  have HC := HC3
  have HF := HF3
  have HO := HO3
  clear HC3 HF3 HO3
  refine (take_err g _ n cap (some ⟨b, off, none⟩) 5 2 V61 HC.out (by omega) (by omega) (by omega) (by omega)).mono ?_
  rintro e u62 ⟨rfl, m62, rfl⟩
  have HF2 := hide (FR.drewN (w := V61) HF.out m62)
  have HO2 := hide (HO.out.trans (only_drewN V61 m62))
  have HC2 := hide (Cur.drewN (w := V61) HC.out m62)
  generalize V61.drewN m62 = U62 at *
  obtain ⟨f0, f1, f2, f3, f4, f5, f6, f7, f8, f9, f10, ff⟩ := HF2.out.cells
  have HF3 := hide (HF2.out.set3 0)
  have HC3 := hide (HC2.out.kept (grown_cell U62 F 3 (.int .i64 0)) HNE.out)
  have HO3 := hide (HO2.out.trans (only_cell (g := g) 3 (.int .i64 0)))
  clear HC HF HO HF2 HO2 HC2
  go_wp2_with fail
  generalize hV : U62.setCell ⟨F, 3, none⟩ (.int .i64 0) = V62 at *
  clear hV f0 f1 f2 f3 f4 f5 f6 f7 f8 f9 f10 ff
  have HC := HC3
  have HF := HF3
  have HO := HO3
  clear HC3 HF3 HO3
  refine (take_err g _ n cap (some ⟨b, off, none⟩) 5 2 V62 HC.out (by omega) (by omega) (by omega) (by omega)).mono ?_
  rintro e u63 ⟨rfl, m63, rfl⟩
  have HF2 := hide (FR.drewN (w := V62) HF.out m63)
  have HO2 := hide (HO.out.trans (only_drewN V62 m63))
  have HC2 := hide (Cur.drewN (w := V62) HC.out m63)
  generalize V62.drewN m63 = U63 at *
  obtain ⟨f0, f1, f2, f3, f4, f5, f6, f7, f8, f9, f10, ff⟩ := HF2.out.cells
  have HF3 := hide (HF2.out.set4 0)
  have HC3 := hide (HC2.out.kept (grown_cell U63 F 4 (.int .i64 0)) HNE.out)
  have HO3 := hide (HO2.out.trans (only_cell (g := g) 4 (.int .i64 0)))
  clear HC HF HO HF2 HO2 HC2
  go_wp2_with fail
  generalize hV : U63.setCell ⟨F, 4, none⟩ (.int .i64 0) = V63 at *
  clear hV f0 f1 f2 f3 f4 f5 f6 f7 f8 f9 f10 ff
  have HC := HC3
  have HF := HF3
  have HO := HO3
  clear HC3 HF3 HO3
  refine (take_err g _ n cap (some ⟨b, off, none⟩) 5 1 V63 HC.out (by omega) (by omega) (by omega) (by omega)).mono ?_
  rintro e u64 ⟨rfl, m64, rfl⟩
  have HF2 := hide (FR.drewN (w := V63) HF.out m64)
  have HO2 := hide (HO.out.trans (only_drewN V63 m64))
  have HC2 := hide (Cur.drewN (w := V63) HC.out m64)
  generalize V63.drewN m64 = U64 at *
  obtain ⟨f0, f1, f2, f3, f4, f5, f6, f7, f8, f9, f10, ff⟩ := HF2.out.cells
  have HF3 := hide (HF2.out.set5 0)
  have HC3 := hide (HC2.out.kept (grown_cell U64 F 5 (.int .i64 0)) HNE.out)
  have HO3 := hide (HO2.out.trans (only_cell (g := g) 5 (.int .i64 0)))
  clear HC HF HO HF2 HO2 HC2
  go_wp2_with fail
  generalize hV : U64.setCell ⟨F, 5, none⟩ (.int .i64 0) = V64 at *
  clear hV f0 f1 f2 f3 f4 f5 f6 f7 f8 f9 f10 ff
  have HC := HC3
  have HF := HF3
  have HO := HO3
  clear HC3 HF3 HO3
  refine (take_err g _ n cap (some ⟨b, off, none⟩) 5 1 V64 HC.out (by omega) (by omega) (by omega) (by omega)).mono ?_
  rintro e u65 ⟨rfl, m65, rfl⟩
  have HF2 := hide (FR.drewN (w := V64) HF.out m65)
  have HO2 := hide (HO.out.trans (only_drewN V64 m65))
  have HC2 := hide (Cur.drewN (w := V64) HC.out m65)
  generalize V64.drewN m65 = U65 at *
  obtain ⟨f0, f1, f2, f3, f4, f5, f6, f7, f8, f9, f10, ff⟩ := HF2.out.cells
  have HF3 := hide (HF2.out.set6 0)
  have HC3 := hide (HC2.out.kept (grown_cell U65 F 6 (.int .i64 0)) HNE.out)
  have HO3 := hide (HO2.out.trans (only_cell (g := g) 6 (.int .i64 0)))
  clear HC HF HO HF2 HO2 HC2
  go_wp2_with fail
  generalize hV : U65.setCell ⟨F, 6, none⟩ (.int .i64 0) = V65 at *
  clear hV f0 f1 f2 f3 f4 f5 f6 f7 f8 f9 f10 ff
  have HC := HC3
  have HF := HF3
  have HO := HO3
  clear HC3 HF3 HO3
  refine (pass_err g _ n cap (some ⟨b, off, none⟩) 5 2 V65 HC.out (by omega) (by omega) (by omega) (by omega)).mono ?_
  rintro e u66 ⟨rfl, m66, rfl⟩
  have HF2 := hide (FR.drewN (w := V65) HF.out m66)
  have HO2 := hide (HO.out.trans (only_drewN V65 m66))
  have HC2 := hide (Cur.drewN (w := V65) HC.out m66)
  generalize V65.drewN m66 = V66 at *
  clear HC HF HO
  have HC := HC2
  have HF := HF2
  have HO := HO2
  clear HC2 HF2 HO2
  go_wp2_with fail
  refine (take_err g _ n cap (some ⟨b, off, none⟩) 5 4 V66 HC.out (by omega) (by omega) (by omega) (by omega)).mono ?_
  rintro e u67 ⟨rfl, m67, rfl⟩
  have HF2 := hide (FR.drewN (w := V66) HF.out m67)
  have HO2 := hide (HO.out.trans (only_drewN V66 m67))
  have HC2 := hide (Cur.drewN (w := V66) HC.out m67)
  generalize V66.drewN m67 = U67 at *
  obtain ⟨f0, f1, f2, f3, f4, f5, f6, f7, f8, f9, f10, ff⟩ := HF2.out.cells
  have HF3 := hide (HF2.out.set7 0)
  have HC3 := hide (HC2.out.kept (grown_cell U67 F 7 (.int .i64 0)) HNE.out)
  have HO3 := hide (HO2.out.trans (only_cell (g := g) 7 (.int .i64 0)))
  clear HC HF HO HF2 HO2 HC2
  go_wp2_with fail
  generalize hV : U67.setCell ⟨F, 7, none⟩ (.int .i64 0) = V67 at *
  clear hV f0 f1 f2 f3 f4 f5 f6 f7 f8 f9 f10 ff
  have HC := HC3
  have HF := HF3
  have HO := HO3
  clear HC3 HF3 HO3
  refine (take_err g _ n cap (some ⟨b, off, none⟩) 5 4 V67 HC.out (by omega) (by omega) (by omega) (by omega)).mono ?_
  rintro e u68 ⟨rfl, m68, rfl⟩
  have HF2 := hide (FR.drewN (w := V67) HF.out m68)
  have HO2 := hide (HO.out.trans (only_drewN V67 m68))
  have HC2 := hide (Cur.drewN (w := V67) HC.out m68)
  generalize V67.drewN m68 = U68 at *
  obtain ⟨f0, f1, f2, f3, f4, f5, f6, f7, f8, f9, f10, ff⟩ := HF2.out.cells
  have HF3 := hide (HF2.out.set8 0)
  have HC3 := hide (HC2.out.kept (grown_cell U68 F 8 (.int .i64 0)) HNE.out)
  have HO3 := hide (HO2.out.trans (only_cell (g := g) 8 (.int .i64 0)))
  clear HC HF HO HF2 HO2 HC2
  go_wp2_with fail
  generalize hV : U68.setCell ⟨F, 8, none⟩ (.int .i64 0) = V68 at *
  clear hV f0 f1 f2 f3 f4 f5 f6 f7 f8 f9 f10 ff
  have HC := HC3
  have HF := HF3
  have HO := HO3
  clear HC3 HF3 HO3
  obtain ⟨f0, f1, f2, f3, f4, f5, f6, f7, f8, f9, f10, ff⟩ := HF.out.cells
  refine (hsize_walk F y0 V68 f0).mono ?_
  rintro e v ⟨rfl, hv⟩
  rw [hv]
  clear hv f0 f1 f2 f3 f4 f5 f6 f7 f8 f9 f10 ff
  go_wp2_with fail
  refine (takeBytes_err g _ n cap (some ⟨b, off, none⟩) 5 _ V68 HC.out (by omega) (by omega) (by omega) (by omega)).mono ?_
  rintro e U ⟨rfl, hbU⟩
  have HF2 := hide (HF.out.only (Only.of_below (S := [g]) hbU) HNF.out)
  have HO2 := hide (HO.out.trans (Only.of_below hbU))
  have HC2 := hide (HC.out.below hbU HC.out.lt)
  clear HC HF HO hbU
  generalize V68.heap.size = K at *
  obtain ⟨f0, f1, f2, f3, f4, f5, f6, f7, f8, f9, f10, ff⟩ := HF2.out.cells
  have HF3 := hide (HF2.out.set9 (.slice (some ⟨K, 0, none⟩) 0 0))
  have HC3 := hide (HC2.out.kept (grown_cell U F 9 (.slice (some ⟨K, 0, none⟩) 0 0)) HNE.out)
  have HO3 := hide (HO2.out.trans (only_cell (g := g) 9 (.slice (some ⟨K, 0, none⟩) 0 0)))
  clear HF2 HO2 HC2
  go_wp2_with fail
  generalize hV : U.setCell ⟨F, 9, none⟩ (.slice (some ⟨K, 0, none⟩) 0 0) = V at *
  clear hV f0 f1 f2 f3 f4 f5 f6 f7 f8 f9 f10 ff
  refine (passed_walk g 1 n cap b off (wErr 5) V HC3.out (by omega) (by omega)).mono ?_
  rintro e v ⟨rfl, mp, rfl⟩
  go_wp2_with fail
  refine (checksum_walk (some ⟨b, off, none⟩) 1 cap (zs.take 1) _ (by rw [List.length_take, HN.out]; omega) (show Arr (V.drewN mp) _ _ from (arr_only HA.out HO3.out HAN.out).take 1) (by omega)).mono ?_
  rintro e X ⟨rfl, hbk, _⟩
  have hbX : Below V.heap.size V X := ⟨hbk.os, hbk.tape, hbk.output, hbk.size, hbk.block⟩
  have HF4 := hide (HF3.out.only (Only.of_below (S := [g]) hbX) HNF.out)
  have HO4 := hide (HO3.out.trans (Only.of_below hbX))
  have HC4 := hide (HC3.out.below hbX HC3.out.lt)
  clear HC3 HF3 HO3 hbk hbX
  go_wp2_with fail
  refine (demand_err g _ _ 5 _ _ X HC4.out).mono ?_
  rintro e v ⟨rfl, hv⟩
  rw [hv]
  clear hv
  go_wp2_with fail
  go_end0
  exact ⟨_, 1, rfl, HC4.out, HF4.out, HO4.out, by omega⟩
end Go.Proofs.YtakoagfeiolkjaaDoor
