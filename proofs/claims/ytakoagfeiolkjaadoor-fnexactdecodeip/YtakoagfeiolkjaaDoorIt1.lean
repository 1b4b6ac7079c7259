/-
Contracts of functions of this seat.
-/
import Derived.Test.YtakoagfeiolkjaaDoorRows
import Derived.WalkKit
import Derived.ProofKit
import Derived.OpenShut
import Derived.Test.YtakoagfeiolkjaaDoorIt0
namespace Go.Proofs.YtakoagfeiolkjaaDoor
open Go.ChangeShapes Go.WideShapes Go.ChangeAt Go.RowKit
set_option linter.unusedVariables false
set_option maxRecDepth 100000
set_option maxHeartbeats 8000000 in
theorem takeHead_short (g F n cap : Nat) (a : Option Addr) (w : World) (hc : Cur w g (.slice a n cap) 0 .nilIface) (hf : FR w F 0 0 0 0 0 0 0 0 0 (.slice none 0 0) (.slice none 0 0)) (hm : n ≤ 1048576) (h20 : n < 20) (hFg : F ≠ g) :
    Calls Tryd.prog 24 #[.pointer (some ⟨F, 0, none⟩), .pointer (some ⟨g, 0, none⟩)] w fun e w' => ∃ (K p : Nat), e = .returned (.tuple #[]) ∧ Cur w' g (.slice a n cap) p (wErr 2) ∧ FR w' F 0 0 0 0 0 0 0 0 0 (.slice (some ⟨K, 0, none⟩) 0 0) (.slice none 0 0) ∧ Only [g, F] w w' ∧ p ≤ n := by
  have HNE : Hid (some g ≠ some F) := hide (by intro e; cases e; exact hFg rfl)
  have HNF : Hid (F ∉ [g]) := hide (by simp [hFg])
  have h20' : decide ((20 : Int) ≤ (n : Int)) = false := decide_eq_false (by omega)
  have CL := hide (left0_walk g n cap a .nilIface w hc (by omega))
  have HC0 := hide hc
  have HF0 := hide hf
  clear hc hf
  go_enter Tryd.func24, Tryd.ntmps24
  go_wp2_with fail
  refine CL.out.mono ?_
  rintro e w1 ⟨rfl, m, rfl⟩
  have HC := hide (Cur.drewN (w := w) HC0.out m)
  have HF := hide (FR.drewN (w := w) HF0.out m)
  have HO : Hid (Only [g, F] w (w.drewN m)) := hide (only_drewN w m)
  clear HC0 HF0 CL
  generalize w.drewN m = W0 at *
  go_wp2_with fail
  refine (demand_no g 0 _ 2 W0 HC.out).mono ?_
  rintro e w2 ⟨rfl, hc2, hg2⟩
  have HF2 := hide (HF.out.only (Only.of_some hg2) HNF.out)
  have HO2 := hide (HO.out.trans (only_g (F := F) hg2))
  have HC2 := hide hc2
  clear hc2 hg2 HC HF HO
  have HC := HC2
  have HF := HF2
  have HO := HO2
  clear HC2 HF2 HO2
  go_wp2_with fail
  refine (take_err g _ n cap a 2 1 w2 HC.out (by omega) (by omega) (by omega) (by omega)).mono ?_
  rintro e u50 ⟨rfl, m50, rfl⟩
  have HF2 := hide (FR.drewN (w := w2) HF.out m50)
  have HO2 := hide (HO.out.trans (only_drewN w2 m50))
  have HC2 := hide (Cur.drewN (w := w2) HC.out m50)
  generalize w2.drewN m50 = U50 at *
  obtain ⟨f0, f1, f2, f3, f4, f5, f6, f7, f8, f9, f10, ff⟩ := HF2.out.cells
  have HF3 := hide (HF2.out.set0 0)
  have HC3 := hide (HC2.out.kept (grown_cell U50 F 0 (.int .i64 0)) HNE.out)
  have HO3 := hide (HO2.out.trans (only_cell (g := g) 0 (.int .i64 0)))
  clear HC HF HO HF2 HO2 HC2
  go_wp2_with fail
  generalize hV : U50.setCell ⟨F, 0, none⟩ (.int .i64 0) = V50 at *
  clear hV f0 f1 f2 f3 f4 f5 f6 f7 f8 f9 f10 ff
  have HC := HC3
  have HF := HF3
  have HO := HO3
  clear HC3 HF3 HO3
  obtain ⟨f0, f1, f2, f3, f4, f5, f6, f7, f8, f9, f10, ff⟩ := HF.out.cells
  refine (version_walk F 0 V50 f0).mono ?_
  rintro e v ⟨rfl, hv⟩
  rw [hv]
  clear hv f0 f1 f2 f3 f4 f5 f6 f7 f8 f9 f10 ff
  go_wp2_with fail
  refine (demand_err g _ _ 2 _ _ V50 HC.out).mono ?_
  rintro e v ⟨rfl, hv⟩
  rw [hv]
  clear hv
  go_wp2_with fail
  have HC2 := hide (Cur.drew (w := V50) HC.out)
  have HF2 := hide (FR.drew (w := V50) HF.out)
  have HO2 := hide (HO.out.trans (only_drew V50))
  refine region_tail 14 (by kernel_rfl) (by kernel_rfl) ?_
  clear HC HF HO
  generalize V50.drew = VQ at *
  have HC := HC2
  have HF := HF2
  have HO := HO2
  clear HC2 HF2 HO2
  obtain ⟨f0, f1, f2, f3, f4, f5, f6, f7, f8, f9, f10, ff⟩ := HF.out.cells
  obtain ⟨c0, c1, c2, cf⟩ := HC.out.cells
  simp only [List.take_succ_cons, List.take_zero, List.drop_succ_cons, List.drop_zero]
  repeat (first | go_big_quiet_skip | (go_big_quiet_want; go_big_quiet_op; first | go_big_quiet_on | (apply Exists.intro; refine ⟨hsize_walk F 0 VQ f0, ?_⟩; go_big_quiet_on)))
  refine wpQuiet_nil ?_
  clear c0 c1 c2 cf f0 f1 f2 f3 f4 f5 f6 f7 f8 f9 f10 ff
  go_wp2_with fail
  refine (demand_err g _ _ 2 _ _ VQ HC.out).mono ?_
  rintro e v ⟨rfl, hv⟩
  rw [hv]
  clear hv
  go_wp2_with fail
  refine (take_err g _ n cap a 2 1 VQ HC.out (by omega) (by omega) (by omega) (by omega)).mono ?_
  rintro e u51 ⟨rfl, m51, rfl⟩
  have HF2 := hide (FR.drewN (w := VQ) HF.out m51)
  have HO2 := hide (HO.out.trans (only_drewN VQ m51))
  have HC2 := hide (Cur.drewN (w := VQ) HC.out m51)
  generalize VQ.drewN m51 = U51 at *
  obtain ⟨f0, f1, f2, f3, f4, f5, f6, f7, f8, f9, f10, ff⟩ := HF2.out.cells
  have HF3 := hide (HF2.out.set1 0)
  have HC3 := hide (HC2.out.kept (grown_cell U51 F 1 (.int .i64 0)) HNE.out)
  have HO3 := hide (HO2.out.trans (only_cell (g := g) 1 (.int .i64 0)))
  clear HC HF HO HF2 HO2 HC2
  go_wp2_with fail
  generalize hV : U51.setCell ⟨F, 1, none⟩ (.int .i64 0) = V51 at *
  clear hV f0 f1 f2 f3 f4 f5 f6 f7 f8 f9 f10 ff
  have HC := HC3
  have HF := HF3
  have HO := HO3
  clear HC3 HF3 HO3
  refine (take_err g _ n cap a 2 2 V51 HC.out (by omega) (by omega) (by omega) (by omega)).mono ?_
  rintro e u52 ⟨rfl, m52, rfl⟩
  have HF2 := hide (FR.drewN (w := V51) HF.out m52)
  have HO2 := hide (HO.out.trans (only_drewN V51 m52))
  have HC2 := hide (Cur.drewN (w := V51) HC.out m52)
  generalize V51.drewN m52 = U52 at *
  obtain ⟨f0, f1, f2, f3, f4, f5, f6, f7, f8, f9, f10, ff⟩ := HF2.out.cells
  have HF3 := hide (HF2.out.set2 0)
  have HC3 := hide (HC2.out.kept (grown_cell U52 F 2 (.int .i64 0)) HNE.out)
  have HO3 := hide (HO2.out.trans (only_cell (g := g) 2 (.int .i64 0)))
  clear HC HF HO HF2 HO2 HC2
  go_wp2_with fail
  generalize hV : U52.setCell ⟨F, 2, none⟩ (.int .i64 0) = V52 at *
  clear hV f0 f1 f2 f3 f4 f5 f6 f7 f8 f9 f10 ff
  have HC := HC3
  have HF := HF3
  have HO := HO3
  clear HC3 HF3 HO3
  refine (take_err g _ n cap a 2 2 V52 HC.out (by omega) (by omega) (by omega) (by omega)).mono ?_
  rintro e u53 ⟨rfl, m53, rfl⟩
  have HF2 := hide (FR.drewN (w := V52) HF.out m53)
  have HO2 := hide (HO.out.trans (only_drewN V52 m53))
  have HC2 := hide (Cur.drewN (w := V52) HC.out m53)
  generalize V52.drewN m53 = U53 at *
  obtain ⟨f0, f1, f2, f3, f4, f5, f6, f7, f8, f9, f10, ff⟩ := HF2.out.cells
  have HF3 := hide (HF2.out.set3 0)
  have HC3 := hide (HC2.out.kept (grown_cell U53 F 3 (.int .i64 0)) HNE.out)
  have HO3 := hide (HO2.out.trans (only_cell (g := g) 3 (.int .i64 0)))
  clear HC HF HO HF2 HO2 HC2
  go_wp2_with fail
  generalize hV : U53.setCell ⟨F, 3, none⟩ (.int .i64 0) = V53 at *
  clear hV f0 f1 f2 f3 f4 f5 f6 f7 f8 f9 f10 ff
  have HC := HC3
  have HF := HF3
  have HO := HO3
  clear HC3 HF3 HO3
  refine (take_err g _ n cap a 2 2 V53 HC.out (by omega) (by omega) (by omega) (by omega)).mono ?_
  rintro e u54 ⟨rfl, m54, rfl⟩
  have HF2 := hide (FR.drewN (w := V53) HF.out m54)
  have HO2 := hide (HO.out.trans (only_drewN V53 m54))
  have HC2 := hide (Cur.drewN (w := V53) HC.out m54)
  generalize V53.drewN m54 = U54 at *
  obtain ⟨f0, f1, f2, f3, f4, f5, f6, f7, f8, f9, f10, ff⟩ := HF2.out.cells
  have HF3 := hide (HF2.out.set4 0)
  have HC3 := hide (HC2.out.kept (grown_cell U54 F 4 (.int .i64 0)) HNE.out)
  have HO3 := hide (HO2.out.trans (only_cell (g := g) 4 (.int .i64 0)))
  clear HC HF HO HF2 HO2 HC2
  go_wp2_with fail
  generalize hV : U54.setCell ⟨F, 4, none⟩ (.int .i64 0) = V54 at *
  clear hV f0 f1 f2 f3 f4 f5 f6 f7 f8 f9 f10 ff
  have HC := HC3
  have HF := HF3
  have HO := HO3
  clear HC3 HF3 HO3
  refine (take_err g _ n cap a 2 1 V54 HC.out (by omega) (by omega) (by omega) (by omega)).mono ?_
  rintro e u55 ⟨rfl, m55, rfl⟩
  have HF2 := hide (FR.drewN (w := V54) HF.out m55)
  have HO2 := hide (HO.out.trans (only_drewN V54 m55))
  have HC2 := hide (Cur.drewN (w := V54) HC.out m55)
  generalize V54.drewN m55 = U55 at *
  obtain ⟨f0, f1, f2, f3, f4, f5, f6, f7, f8, f9, f10, ff⟩ := HF2.out.cells
  have HF3 := hide (HF2.out.set5 0)
  have HC3 := hide (HC2.out.kept (grown_cell U55 F 5 (.int .i64 0)) HNE.out)
  have HO3 := hide (HO2.out.trans (only_cell (g := g) 5 (.int .i64 0)))
  clear HC HF HO HF2 HO2 HC2
  go_wp2_with fail
  generalize hV : U55.setCell ⟨F, 5, none⟩ (.int .i64 0) = V55 at *
  clear hV f0 f1 f2 f3 f4 f5 f6 f7 f8 f9 f10 ff
  have HC := HC3
  have HF := HF3
  have HO := HO3
  clear HC3 HF3 HO3
  refine (take_err g _ n cap a 2 1 V55 HC.out (by omega) (by omega) (by omega) (by omega)).mono ?_
  rintro e u56 ⟨rfl, m56, rfl⟩
  have HF2 := hide (FR.drewN (w := V55) HF.out m56)
  have HO2 := hide (HO.out.trans (only_drewN V55 m56))
  have HC2 := hide (Cur.drewN (w := V55) HC.out m56)
  generalize V55.drewN m56 = U56 at *
  obtain ⟨f0, f1, f2, f3, f4, f5, f6, f7, f8, f9, f10, ff⟩ := HF2.out.cells
  have HF3 := hide (HF2.out.set6 0)
  have HC3 := hide (HC2.out.kept (grown_cell U56 F 6 (.int .i64 0)) HNE.out)
  have HO3 := hide (HO2.out.trans (only_cell (g := g) 6 (.int .i64 0)))
  clear HC HF HO HF2 HO2 HC2
  go_wp2_with fail
  generalize hV : U56.setCell ⟨F, 6, none⟩ (.int .i64 0) = V56 at *
  clear hV f0 f1 f2 f3 f4 f5 f6 f7 f8 f9 f10 ff
  have HC := HC3
  have HF := HF3
  have HO := HO3
  clear HC3 HF3 HO3
  refine (pass_err g _ n cap a 2 2 V56 HC.out (by omega) (by omega) (by omega) (by omega)).mono ?_
  rintro e u57 ⟨rfl, m57, rfl⟩
  have HF2 := hide (FR.drewN (w := V56) HF.out m57)
  have HO2 := hide (HO.out.trans (only_drewN V56 m57))
  have HC2 := hide (Cur.drewN (w := V56) HC.out m57)
  generalize V56.drewN m57 = V57 at *
  clear HC HF HO
  have HC := HC2
  have HF := HF2
  have HO := HO2
  clear HC2 HF2 HO2
  go_wp2_with fail
  refine (take_err g _ n cap a 2 4 V57 HC.out (by omega) (by omega) (by omega) (by omega)).mono ?_
  rintro e u58 ⟨rfl, m58, rfl⟩
  have HF2 := hide (FR.drewN (w := V57) HF.out m58)
  have HO2 := hide (HO.out.trans (only_drewN V57 m58))
  have HC2 := hide (Cur.drewN (w := V57) HC.out m58)
  generalize V57.drewN m58 = U58 at *
  obtain ⟨f0, f1, f2, f3, f4, f5, f6, f7, f8, f9, f10, ff⟩ := HF2.out.cells
  have HF3 := hide (HF2.out.set7 0)
  have HC3 := hide (HC2.out.kept (grown_cell U58 F 7 (.int .i64 0)) HNE.out)
  have HO3 := hide (HO2.out.trans (only_cell (g := g) 7 (.int .i64 0)))
  clear HC HF HO HF2 HO2 HC2
  go_wp2_with fail
  generalize hV : U58.setCell ⟨F, 7, none⟩ (.int .i64 0) = V58 at *
  clear hV f0 f1 f2 f3 f4 f5 f6 f7 f8 f9 f10 ff
  have HC := HC3
  have HF := HF3
  have HO := HO3
  clear HC3 HF3 HO3
  refine (take_err g _ n cap a 2 4 V58 HC.out (by omega) (by omega) (by omega) (by omega)).mono ?_
  rintro e u59 ⟨rfl, m59, rfl⟩
  have HF2 := hide (FR.drewN (w := V58) HF.out m59)
  have HO2 := hide (HO.out.trans (only_drewN V58 m59))
  have HC2 := hide (Cur.drewN (w := V58) HC.out m59)
  generalize V58.drewN m59 = U59 at *
  obtain ⟨f0, f1, f2, f3, f4, f5, f6, f7, f8, f9, f10, ff⟩ := HF2.out.cells
  have HF3 := hide (HF2.out.set8 0)
  have HC3 := hide (HC2.out.kept (grown_cell U59 F 8 (.int .i64 0)) HNE.out)
  have HO3 := hide (HO2.out.trans (only_cell (g := g) 8 (.int .i64 0)))
  clear HC HF HO HF2 HO2 HC2
  go_wp2_with fail
  generalize hV : U59.setCell ⟨F, 8, none⟩ (.int .i64 0) = V59 at *
  clear hV f0 f1 f2 f3 f4 f5 f6 f7 f8 f9 f10 ff
  have HC := HC3
  have HF := HF3
  have HO := HO3
  clear HC3 HF3 HO3
  obtain ⟨f0, f1, f2, f3, f4, f5, f6, f7, f8, f9, f10, ff⟩ := HF.out.cells
  refine (hsize_walk F 0 V59 f0).mono ?_
  rintro e v ⟨rfl, hv⟩
  rw [hv]
  clear hv f0 f1 f2 f3 f4 f5 f6 f7 f8 f9 f10 ff
  go_wp2_with fail
  refine (takeBytes_err g _ n cap a 2 _ V59 HC.out (by omega) (by omega) (by omega) (by omega)).mono ?_
  rintro e U ⟨rfl, hbU⟩
  have HF2 := hide (HF.out.only (Only.of_below (S := [g]) hbU) HNF.out)
  have HO2 := hide (HO.out.trans (Only.of_below hbU))
  have HC2 := hide (HC.out.below hbU HC.out.lt)
  clear HC HF HO hbU
  generalize V59.heap.size = K at *
  obtain ⟨f0, f1, f2, f3, f4, f5, f6, f7, f8, f9, f10, ff⟩ := HF2.out.cells
  have HF3 := hide (HF2.out.set9 (.slice (some ⟨K, 0, none⟩) 0 0))
  have HC3 := hide (HC2.out.kept (grown_cell U F 9 (.slice (some ⟨K, 0, none⟩) 0 0)) HNE.out)
  have HO3 := hide (HO2.out.trans (only_cell (g := g) 9 (.slice (some ⟨K, 0, none⟩) 0 0)))
  clear HF2 HO2 HC2
  go_wp2_with fail
  generalize hV : U.setCell ⟨F, 9, none⟩ (.slice (some ⟨K, 0, none⟩) 0 0) = V at *
  clear hV f0 f1 f2 f3 f4 f5 f6 f7 f8 f9 f10 ff
  refine (passed_zero g n cap a (wErr 2) V HC3.out).mono ?_
  rintro e v ⟨⟨a2, rfl⟩, mp, rfl⟩
  go_wp2_with fail
  refine (checksum_walk a2 0 cap [] _ rfl ⟨by simp, fun j hj => by simp at hj⟩ (by omega)).mono ?_
  rintro e X ⟨rfl, hbk, _⟩
  have hbX : Below V.heap.size V X := ⟨hbk.os, hbk.tape, hbk.output, hbk.size, hbk.block⟩
  have HF4 := hide (HF3.out.only (Only.of_below (S := [g]) hbX) HNF.out)
  have HO4 := hide (HO3.out.trans (Only.of_below hbX))
  have HC4 := hide (HC3.out.below hbX HC3.out.lt)
  clear HC3 HF3 HO3 hbk hbX
  go_wp2_with fail
  refine (demand_err g _ _ 2 _ _ X HC4.out).mono ?_
  rintro e v ⟨rfl, hv⟩
  rw [hv]
  clear hv
  go_wp2_with fail
  go_end0
  exact ⟨_, 0, rfl, HC4.out, HF4.out, HO4.out, by omega⟩

set_option maxHeartbeats 8000000 in
theorem takeHead_version (g F n cap b off : Nat) (zs : List Int) (w : World) (hc : Cur w g (.slice (some ⟨b, off, none⟩) n cap) 0 .nilIface) (hf : FR w F 0 0 0 0 0 0 0 0 0 (.slice none 0 0) (.slice none 0 0)) (hn : zs.length = n) (ha : Arr w (some ⟨b, off, none⟩) zs) (hm : n ≤ 1048576) (hcap : n ≤ cap) (h20 : 20 ≤ n) (hbg : b ≠ g) (hbF : b ≠ F) (hFg : F ≠ g) (y0 : Int) (hy0 : y0 = tnum ((zs.drop 0).take 1)) (hb0 : 0 ≤ y0) (hb1 : y0 ≤ 255) (hv : (y0 / 16 == 4) = false) :
    Calls Tryd.prog 24 #[.pointer (some ⟨F, 0, none⟩), .pointer (some ⟨g, 0, none⟩)] w fun e w' => ∃ (K p : Nat), e = .returned (.tuple #[]) ∧ Cur w' g (.slice (some ⟨b, off, none⟩) n cap) p (wErr 4) ∧ FR w' F y0 0 0 0 0 0 0 0 0 (.slice (some ⟨K, 0, none⟩) 0 0) (.slice none 0 0) ∧ Only [g, F] w w' ∧ p ≤ n := by
  have HA := hide ha
  have HN := hide hn
  have HNE : Hid (some g ≠ some F) := hide (by intro e; cases e; exact hFg rfl)
  have HNF : Hid (F ∉ [g]) := hide (by simp [hFg])
  have HAN : Hid (∀ j, j < zs.length → ∃ b' off', (some ⟨b, off, none⟩ : Option Addr) = some ⟨b', off', none⟩ ∧ b' ∉ [g, F]) := hide (fun j hj => ⟨b, off, rfl, by simp [hbg, hbF]⟩)
  have h20' : (20 : Int) ≤ (n : Int) := by omega
  have HY0 := hide hy0
  clear ha hn hy0
  have CL := hide (left0_walk g n cap (some ⟨b, off, none⟩) .nilIface w hc (by omega))
  have HC0 := hide hc
  have HF0 := hide hf
  clear hc hf
  go_enter Tryd.func24, Tryd.ntmps24
  go_wp2_with fail
  refine CL.out.mono ?_
  rintro e w1 ⟨rfl, m, rfl⟩
  have HC := hide (Cur.drewN (w := w) HC0.out m)
  have HF := hide (FR.drewN (w := w) HF0.out m)
  have HO : Hid (Only [g, F] w (w.drewN m)) := hide (only_drewN w m)
  clear HC0 HF0 CL
  generalize w.drewN m = W0 at *
  go_wp2_with fail
  refine (demand_yes g 0 _ 2 W0 HC.out).mono ?_
  rintro e v ⟨rfl, hv⟩
  rw [hv]
  clear hv
  go_wp2_with fail
  have t1 := tk1 g 0 n cap b off zs W0 HC.out (by omega) (by omega) hcap HN.out (arr_only HA.out HO.out HAN.out) hbg
  rw [show tnum ((zs.drop 0).take 1) = y0 from HY0.out.symm] at t1
  have T1 := hide t1
  clear t1
  refine T1.out.mono ?_
  rintro e u50 ⟨rfl, hc2, hg2⟩
  have HF2 := hide (HF.out.only (Only.of_some hg2) HNF.out)
  have HO2 := hide (HO.out.trans (only_g (F := F) hg2))
  obtain ⟨f0, f1, f2, f3, f4, f5, f6, f7, f8, f9, f10, ff⟩ := HF2.out.cells
  have HF3 := hide (HF2.out.set0 y0)
  have HC3 : Hid (Cur (u50.setCell ⟨F, 0, none⟩ (.int .i64 y0)) g (.slice (some ⟨b, off, none⟩) n cap) 1 .nilIface) := hide (hc2.kept (grown_cell u50 F 0 _) HNE.out)
  have HO3 := hide (HO2.out.trans (only_cell (g := g) 0 (.int .i64 y0)))
  clear T1 hc2 hg2 HC HF HO HF2 HO2
  go_wp2_with fail
  generalize hV : u50.setCell ⟨F, 0, none⟩ (.int .i64 y0) = V50 at *
  clear hV f0 f1 f2 f3 f4 f5 f6 f7 f8 f9 f10 ff
  have HC := HC3
  have HF := HF3
  have HO := HO3
  clear HC3 HF3 HO3
  obtain ⟨f0, f1, f2, f3, f4, f5, f6, f7, f8, f9, f10, ff⟩ := HF.out.cells
  refine (version_walk F y0 V50 f0).mono ?_
  rintro e v ⟨rfl, hv⟩
  rw [hv]
  clear hv f0 f1 f2 f3 f4 f5 f6 f7 f8 f9 f10 ff
  go_wp2_with fail
  refine (demand_no g _ _ 4 V50 HC.out).mono ?_
  rintro e V51 ⟨rfl, hc2, hg2⟩
  have HF2 := hide (HF.out.only (Only.of_some hg2) HNF.out)
  have HO2 := hide (HO.out.trans (only_g (F := F) hg2))
  have HC2 := hide hc2
  clear hc2 hg2 HC HF HO
  have HC := HC2
  have HF := HF2
  have HO := HO2
  clear HC2 HF2 HO2
  go_wp2_with fail
  by_cases hs : (20 : Int) ≤ y0 % 16 * 4
  · have HC2 := hide (Cur.drew (w := V51) HC.out)
    have HF2 := hide (FR.drew (w := V51) HF.out)
    have HO2 := hide (HO.out.trans (only_drew V51))
    refine region_tail 14 (by kernel_rfl) (by kernel_rfl) ?_
    clear HC HF HO
    generalize V51.drew = VQ at *
    have HC := HC2
    have HF := HF2
    have HO := HO2
    clear HC2 HF2 HO2
    obtain ⟨f0, f1, f2, f3, f4, f5, f6, f7, f8, f9, f10, ff⟩ := HF.out.cells
    obtain ⟨c0, c1, c2, cf⟩ := HC.out.cells
    simp only [List.take_succ_cons, List.take_zero, List.drop_succ_cons, List.drop_zero]
    repeat (first | go_big_quiet_skip | (go_big_quiet_want; go_big_quiet_op; first | go_big_quiet_on | (apply Exists.intro; refine ⟨hsize_walk F y0 VQ f0, ?_⟩; go_big_quiet_on)))
    refine wpQuiet_nil ?_
    clear c0 c1 c2 cf f0 f1 f2 f3 f4 f5 f6 f7 f8 f9 f10 ff
    go_wp2_with fail
    refine (demand_err g _ _ 4 _ _ VQ HC.out).mono ?_
    rintro e v ⟨rfl, hv⟩
    rw [hv]
    clear hv
    go_wp2_with fail
    refine (take_err g _ n cap (some ⟨b, off, none⟩) 4 1 VQ HC.out (by omega) (by omega) (by omega) (by omega)).mono ?_
    rintro e u60 ⟨rfl, m60, rfl⟩
    have HF2 := hide (FR.drewN (w := VQ) HF.out m60)
    have HO2 := hide (HO.out.trans (only_drewN VQ m60))
    have HC2 := hide (Cur.drewN (w := VQ) HC.out m60)
    generalize VQ.drewN m60 = U60 at *
    obtain ⟨f0, f1, f2, f3, f4, f5, f6, f7, f8, f9, f10, ff⟩ := HF2.out.cells
    have HF3 := hide (HF2.out.set1 0)
    have HC3 := hide (HC2.out.kept (grown_cell U60 F 1 (.int .i64 0)) HNE.out)
    have HO3 := hide (HO2.out.trans (only_cell (g := g) 1 (.int .i64 0)))
    clear HC HF HO HF2 HO2 HC2
    go_wp2_with fail
    generalize hV : U60.setCell ⟨F, 1, none⟩ (.int .i64 0) = V60 at *
    clear hV f0 f1 f2 f3 f4 f5 f6 f7 f8 f9 f10 ff
    have HC := HC3
    have HF := HF3
    have HO := HO3
    clear HC3 HF3 HO3
    refine (take_err g _ n cap (some ⟨b, off, none⟩) 4 2 V60 HC.out (by omega) (by omega) (by omega) (by omega)).mono ?_
    rintro e u61 ⟨rfl, m61, rfl⟩
    have HF2 := hide (FR.drewN (w := V60) HF.out m61)
    have HO2 := hide (HO.out.trans (only_drewN V60 m61))
    have HC2 := hide (Cur.drewN (w := V60) HC.out m61)
    generalize V60.drewN m61 = U61 at *
    obtain ⟨f0, f1, f2, f3, f4, f5, f6, f7, f8, f9, f10, ff⟩ := HF2.out.cells
    have HF3 := hide (HF2.out.set2 0)
    have HC3 := hide (HC2.out.kept (grown_cell U61 F 2 (.int .i64 0)) HNE.out)
    have HO3 := hide (HO2.out.trans (only_cell (g := g) 2 (.int .i64 0)))
    clear HC HF HO HF2 HO2 HC2
    go_wp2_with fail
    generalize hV : U61.setCell ⟨F, 2, none⟩ (.int .i64 0) = V61 at *
    clear hV f0 f1 f2 f3 f4 f5 f6 f7 f8 f9 f10 ff
    have HC := HC3
    have HF := HF3
    have HO := HO3
    clear HC3 HF3 HO3
    refine (take_err g _ n cap (some ⟨b, off, none⟩) 4 2 V61 HC.out (by omega) (by omega) (by omega) (by omega)).mono ?_
    rintro e u62 ⟨rfl, m62, rfl⟩
    have HF2 := hide (FR.drewN (w := V61) HF.out m62)
    have HO2 := hide (HO.out.trans (only_drewN V61 m62))
    have HC2 := hide (Cur.drewN (w := V61) HC.out m62)
    generalize V61.drewN m62 = U62 at *
    obtain ⟨f0, f1, f2, f3, f4, f5, f6, f7, f8, f9, f10, ff⟩ := HF2.out.cells
    have HF3 := hide (HF2.out.set3 0)
    have HC3 := hide (HC2.out.kept (grown_cell U62 F 3 (.int .i64 0)) HNE.out)
    have HO3 := hide (HO2.out.trans (only_cell (g := g) 3 (.int .i64 0)))
    clear HC HF HO HF2 HO2 HC2
    go_wp2_with fail
    generalize hV : U62.setCell ⟨F, 3, none⟩ (.int .i64 0) = V62 at *
    clear hV f0 f1 f2 f3 f4 f5 f6 f7 f8 f9 f10 ff
    have HC := HC3
    have HF := HF3
    have HO := HO3
    clear HC3 HF3 HO3
    refine (take_err g _ n cap (some ⟨b, off, none⟩) 4 2 V62 HC.out (by omega) (by omega) (by omega) (by omega)).mono ?_
    rintro e u63 ⟨rfl, m63, rfl⟩
    have HF2 := hide (FR.drewN (w := V62) HF.out m63)
    have HO2 := hide (HO.out.trans (only_drewN V62 m63))
    have HC2 := hide (Cur.drewN (w := V62) HC.out m63)
    generalize V62.drewN m63 = U63 at *
    obtain ⟨f0, f1, f2, f3, f4, f5, f6, f7, f8, f9, f10, ff⟩ := HF2.out.cells
    have HF3 := hide (HF2.out.set4 0)
    have HC3 := hide (HC2.out.kept (grown_cell U63 F 4 (.int .i64 0)) HNE.out)
    have HO3 := hide (HO2.out.trans (only_cell (g := g) 4 (.int .i64 0)))
    clear HC HF HO HF2 HO2 HC2
    go_wp2_with fail
    generalize hV : U63.setCell ⟨F, 4, none⟩ (.int .i64 0) = V63 at *
    clear hV f0 f1 f2 f3 f4 f5 f6 f7 f8 f9 f10 ff
    have HC := HC3
    have HF := HF3
    have HO := HO3
    clear HC3 HF3 HO3
    refine (take_err g _ n cap (some ⟨b, off, none⟩) 4 1 V63 HC.out (by omega) (by omega) (by omega) (by omega)).mono ?_
    rintro e u64 ⟨rfl, m64, rfl⟩
    have HF2 := hide (FR.drewN (w := V63) HF.out m64)
    have HO2 := hide (HO.out.trans (only_drewN V63 m64))
    have HC2 := hide (Cur.drewN (w := V63) HC.out m64)
    generalize V63.drewN m64 = U64 at *
    obtain ⟨f0, f1, f2, f3, f4, f5, f6, f7, f8, f9, f10, ff⟩ := HF2.out.cells
    have HF3 := hide (HF2.out.set5 0)
    have HC3 := hide (HC2.out.kept (grown_cell U64 F 5 (.int .i64 0)) HNE.out)
    have HO3 := hide (HO2.out.trans (only_cell (g := g) 5 (.int .i64 0)))
    clear HC HF HO HF2 HO2 HC2
    go_wp2_with fail
    generalize hV : U64.setCell ⟨F, 5, none⟩ (.int .i64 0) = V64 at *
    clear hV f0 f1 f2 f3 f4 f5 f6 f7 f8 f9 f10 ff
    have HC := HC3
    have HF := HF3
    have HO := HO3
    clear HC3 HF3 HO3
    refine (take_err g _ n cap (some ⟨b, off, none⟩) 4 1 V64 HC.out (by omega) (by omega) (by omega) (by omega)).mono ?_
    rintro e u65 ⟨rfl, m65, rfl⟩
    have HF2 := hide (FR.drewN (w := V64) HF.out m65)
    have HO2 := hide (HO.out.trans (only_drewN V64 m65))
    have HC2 := hide (Cur.drewN (w := V64) HC.out m65)
    generalize V64.drewN m65 = U65 at *
    obtain ⟨f0, f1, f2, f3, f4, f5, f6, f7, f8, f9, f10, ff⟩ := HF2.out.cells
    have HF3 := hide (HF2.out.set6 0)
    have HC3 := hide (HC2.out.kept (grown_cell U65 F 6 (.int .i64 0)) HNE.out)
    have HO3 := hide (HO2.out.trans (only_cell (g := g) 6 (.int .i64 0)))
    clear HC HF HO HF2 HO2 HC2
    go_wp2_with fail
    generalize hV : U65.setCell ⟨F, 6, none⟩ (.int .i64 0) = V65 at *
    clear hV f0 f1 f2 f3 f4 f5 f6 f7 f8 f9 f10 ff
    have HC := HC3
    have HF := HF3
    have HO := HO3
    clear HC3 HF3 HO3
    refine (pass_err g _ n cap (some ⟨b, off, none⟩) 4 2 V65 HC.out (by omega) (by omega) (by omega) (by omega)).mono ?_
    rintro e u66 ⟨rfl, m66, rfl⟩
    have HF2 := hide (FR.drewN (w := V65) HF.out m66)
    have HO2 := hide (HO.out.trans (only_drewN V65 m66))
    have HC2 := hide (Cur.drewN (w := V65) HC.out m66)
    generalize V65.drewN m66 = V66 at *
    clear HC HF HO
    have HC := HC2
    have HF := HF2
    have HO := HO2
    clear HC2 HF2 HO2
    go_wp2_with fail
    refine (take_err g _ n cap (some ⟨b, off, none⟩) 4 4 V66 HC.out (by omega) (by omega) (by omega) (by omega)).mono ?_
    rintro e u67 ⟨rfl, m67, rfl⟩
    have HF2 := hide (FR.drewN (w := V66) HF.out m67)
    have HO2 := hide (HO.out.trans (only_drewN V66 m67))
    have HC2 := hide (Cur.drewN (w := V66) HC.out m67)
    generalize V66.drewN m67 = U67 at *
    obtain ⟨f0, f1, f2, f3, f4, f5, f6, f7, f8, f9, f10, ff⟩ := HF2.out.cells
    have HF3 := hide (HF2.out.set7 0)
    have HC3 := hide (HC2.out.kept (grown_cell U67 F 7 (.int .i64 0)) HNE.out)
    have HO3 := hide (HO2.out.trans (only_cell (g := g) 7 (.int .i64 0)))
    clear HC HF HO HF2 HO2 HC2
    go_wp2_with fail
    generalize hV : U67.setCell ⟨F, 7, none⟩ (.int .i64 0) = V67 at *
    clear hV f0 f1 f2 f3 f4 f5 f6 f7 f8 f9 f10 ff
    have HC := HC3
    have HF := HF3
    have HO := HO3
    clear HC3 HF3 HO3
    refine (take_err g _ n cap (some ⟨b, off, none⟩) 4 4 V67 HC.out (by omega) (by omega) (by omega) (by omega)).mono ?_
    rintro e u68 ⟨rfl, m68, rfl⟩
    have HF2 := hide (FR.drewN (w := V67) HF.out m68)
    have HO2 := hide (HO.out.trans (only_drewN V67 m68))
    have HC2 := hide (Cur.drewN (w := V67) HC.out m68)
    generalize V67.drewN m68 = U68 at *
    obtain ⟨f0, f1, f2, f3, f4, f5, f6, f7, f8, f9, f10, ff⟩ := HF2.out.cells
    have HF3 := hide (HF2.out.set8 0)
    have HC3 := hide (HC2.out.kept (grown_cell U68 F 8 (.int .i64 0)) HNE.out)
    have HO3 := hide (HO2.out.trans (only_cell (g := g) 8 (.int .i64 0)))
    clear HC HF HO HF2 HO2 HC2
    go_wp2_with fail
    generalize hV : U68.setCell ⟨F, 8, none⟩ (.int .i64 0) = V68 at *
    clear hV f0 f1 f2 f3 f4 f5 f6 f7 f8 f9 f10 ff
    have HC := HC3
    have HF := HF3
    have HO := HO3
    clear HC3 HF3 HO3
    obtain ⟨f0, f1, f2, f3, f4, f5, f6, f7, f8, f9, f10, ff⟩ := HF.out.cells
    refine (hsize_walk F y0 V68 f0).mono ?_
    rintro e v ⟨rfl, hv⟩
    rw [hv]
    clear hv f0 f1 f2 f3 f4 f5 f6 f7 f8 f9 f10 ff
    go_wp2_with fail
    refine (takeBytes_err g _ n cap (some ⟨b, off, none⟩) 4 _ V68 HC.out (by omega) (by omega) (by omega) (by omega)).mono ?_
    rintro e U ⟨rfl, hbU⟩
    have HF2 := hide (HF.out.only (Only.of_below (S := [g]) hbU) HNF.out)
    have HO2 := hide (HO.out.trans (Only.of_below hbU))
    have HC2 := hide (HC.out.below hbU HC.out.lt)
    clear HC HF HO hbU
    generalize V68.heap.size = K at *
    obtain ⟨f0, f1, f2, f3, f4, f5, f6, f7, f8, f9, f10, ff⟩ := HF2.out.cells
    have HF3 := hide (HF2.out.set9 (.slice (some ⟨K, 0, none⟩) 0 0))
    have HC3 := hide (HC2.out.kept (grown_cell U F 9 (.slice (some ⟨K, 0, none⟩) 0 0)) HNE.out)
    have HO3 := hide (HO2.out.trans (only_cell (g := g) 9 (.slice (some ⟨K, 0, none⟩) 0 0)))
    clear HF2 HO2 HC2
    go_wp2_with fail
    generalize hV : U.setCell ⟨F, 9, none⟩ (.slice (some ⟨K, 0, none⟩) 0 0) = V at *
    clear hV f0 f1 f2 f3 f4 f5 f6 f7 f8 f9 f10 ff
    refine (passed_walk g 1 n cap b off (wErr 4) V HC3.out (by omega) (by omega)).mono ?_
    rintro e v ⟨rfl, mp, rfl⟩
    go_wp2_with fail
    refine (checksum_walk (some ⟨b, off, none⟩) 1 cap (zs.take 1) _ (by rw [List.length_take, HN.out]; omega) (show Arr (V.drewN mp) _ _ from (arr_only HA.out HO3.out HAN.out).take 1) (by omega)).mono ?_
    rintro e X ⟨rfl, hbk, _⟩
    have hbX : Below V.heap.size V X := ⟨hbk.os, hbk.tape, hbk.output, hbk.size, hbk.block⟩
    have HF4 := hide (HF3.out.only (Only.of_below (S := [g]) hbX) HNF.out)
    have HO4 := hide (HO3.out.trans (Only.of_below hbX))
    have HC4 := hide (HC3.out.below hbX HC3.out.lt)
    clear HC3 HF3 HO3 hbk hbX
    go_wp2_with fail
    refine (demand_err g _ _ 4 _ _ X HC4.out).mono ?_
    rintro e v ⟨rfl, hv⟩
    rw [hv]
    clear hv
    go_wp2_with fail
    go_end0
    exact ⟨_, 1, rfl, HC4.out, HF4.out, HO4.out, by omega⟩
  · have hs' : decide ((20 : Int) ≤ y0 % 16 * 4) = false := decide_eq_false hs
    clear hs
    have HC2 := hide (Cur.drew (w := V51) HC.out)
    have HF2 := hide (FR.drew (w := V51) HF.out)
    have HO2 := hide (HO.out.trans (only_drew V51))
    refine region_tail 14 (by kernel_rfl) (by kernel_rfl) ?_
    clear HC HF HO
    generalize V51.drew = VQ at *
    have HC := HC2
    have HF := HF2
    have HO := HO2
    clear HC2 HF2 HO2
    obtain ⟨f0, f1, f2, f3, f4, f5, f6, f7, f8, f9, f10, ff⟩ := HF.out.cells
    obtain ⟨c0, c1, c2, cf⟩ := HC.out.cells
    simp only [List.take_succ_cons, List.take_zero, List.drop_succ_cons, List.drop_zero]
    repeat (first | go_big_quiet_skip | (go_big_quiet_want; go_big_quiet_op; first | go_big_quiet_on | (apply Exists.intro; refine ⟨hsize_walk F y0 VQ f0, ?_⟩; go_big_quiet_on)))
    refine wpQuiet_nil ?_
    clear c0 c1 c2 cf f0 f1 f2 f3 f4 f5 f6 f7 f8 f9 f10 ff
    go_wp2_with fail
    refine (demand_err g _ _ 4 _ _ VQ HC.out).mono ?_
    rintro e v ⟨rfl, hv⟩
    rw [hv]
    clear hv
    go_wp2_with fail
    refine (take_err g _ n cap (some ⟨b, off, none⟩) 4 1 VQ HC.out (by omega) (by omega) (by omega) (by omega)).mono ?_
    rintro e u60 ⟨rfl, m60, rfl⟩
    have HF2 := hide (FR.drewN (w := VQ) HF.out m60)
    have HO2 := hide (HO.out.trans (only_drewN VQ m60))
    have HC2 := hide (Cur.drewN (w := VQ) HC.out m60)
    generalize VQ.drewN m60 = U60 at *
    obtain ⟨f0, f1, f2, f3, f4, f5, f6, f7, f8, f9, f10, ff⟩ := HF2.out.cells
    have HF3 := hide (HF2.out.set1 0)
    have HC3 := hide (HC2.out.kept (grown_cell U60 F 1 (.int .i64 0)) HNE.out)
    have HO3 := hide (HO2.out.trans (only_cell (g := g) 1 (.int .i64 0)))
    clear HC HF HO HF2 HO2 HC2
    go_wp2_with fail
    generalize hV : U60.setCell ⟨F, 1, none⟩ (.int .i64 0) = V60 at *
    clear hV f0 f1 f2 f3 f4 f5 f6 f7 f8 f9 f10 ff
    have HC := HC3
    have HF := HF3
    have HO := HO3
    clear HC3 HF3 HO3
    refine (take_err g _ n cap (some ⟨b, off, none⟩) 4 2 V60 HC.out (by omega) (by omega) (by omega) (by omega)).mono ?_
    rintro e u61 ⟨rfl, m61, rfl⟩
    have HF2 := hide (FR.drewN (w := V60) HF.out m61)
    have HO2 := hide (HO.out.trans (only_drewN V60 m61))
    have HC2 := hide (Cur.drewN (w := V60) HC.out m61)
    generalize V60.drewN m61 = U61 at *
    obtain ⟨f0, f1, f2, f3, f4, f5, f6, f7, f8, f9, f10, ff⟩ := HF2.out.cells
    have HF3 := hide (HF2.out.set2 0)
    have HC3 := hide (HC2.out.kept (grown_cell U61 F 2 (.int .i64 0)) HNE.out)
    have HO3 := hide (HO2.out.trans (only_cell (g := g) 2 (.int .i64 0)))
    clear HC HF HO HF2 HO2 HC2
    go_wp2_with fail
    generalize hV : U61.setCell ⟨F, 2, none⟩ (.int .i64 0) = V61 at *
    clear hV f0 f1 f2 f3 f4 f5 f6 f7 f8 f9 f10 ff
    have HC := HC3
    have HF := HF3
    have HO := HO3
    clear HC3 HF3 HO3
    refine (take_err g _ n cap (some ⟨b, off, none⟩) 4 2 V61 HC.out (by omega) (by omega) (by omega) (by omega)).mono ?_
    rintro e u62 ⟨rfl, m62, rfl⟩
    have HF2 := hide (FR.drewN (w := V61) HF.out m62)
    have HO2 := hide (HO.out.trans (only_drewN V61 m62))
    have HC2 := hide (Cur.drewN (w := V61) HC.out m62)
    generalize V61.drewN m62 = U62 at *
    obtain ⟨f0, f1, f2, f3, f4, f5, f6, f7, f8, f9, f10, ff⟩ := HF2.out.cells
    have HF3 := hide (HF2.out.set3 0)
    have HC3 := hide (HC2.out.kept (grown_cell U62 F 3 (.int .i64 0)) HNE.out)
    have HO3 := hide (HO2.out.trans (only_cell (g := g) 3 (.int .i64 0)))
    clear HC HF HO HF2 HO2 HC2
    go_wp2_with fail
    generalize hV : U62.setCell ⟨F, 3, none⟩ (.int .i64 0) = V62 at *
    clear hV f0 f1 f2 f3 f4 f5 f6 f7 f8 f9 f10 ff
    have HC := HC3
    have HF := HF3
    have HO := HO3
    clear HC3 HF3 HO3
    refine (take_err g _ n cap (some ⟨b, off, none⟩) 4 2 V62 HC.out (by omega) (by omega) (by omega) (by omega)).mono ?_
    rintro e u63 ⟨rfl, m63, rfl⟩
    have HF2 := hide (FR.drewN (w := V62) HF.out m63)
    have HO2 := hide (HO.out.trans (only_drewN V62 m63))
    have HC2 := hide (Cur.drewN (w := V62) HC.out m63)
    generalize V62.drewN m63 = U63 at *
    obtain ⟨f0, f1, f2, f3, f4, f5, f6, f7, f8, f9, f10, ff⟩ := HF2.out.cells
    have HF3 := hide (HF2.out.set4 0)
    have HC3 := hide (HC2.out.kept (grown_cell U63 F 4 (.int .i64 0)) HNE.out)
    have HO3 := hide (HO2.out.trans (only_cell (g := g) 4 (.int .i64 0)))
    clear HC HF HO HF2 HO2 HC2
    go_wp2_with fail
    generalize hV : U63.setCell ⟨F, 4, none⟩ (.int .i64 0) = V63 at *
    clear hV f0 f1 f2 f3 f4 f5 f6 f7 f8 f9 f10 ff
    have HC := HC3
    have HF := HF3
    have HO := HO3
    clear HC3 HF3 HO3
    refine (take_err g _ n cap (some ⟨b, off, none⟩) 4 1 V63 HC.out (by omega) (by omega) (by omega) (by omega)).mono ?_
    rintro e u64 ⟨rfl, m64, rfl⟩
    have HF2 := hide (FR.drewN (w := V63) HF.out m64)
    have HO2 := hide (HO.out.trans (only_drewN V63 m64))
    have HC2 := hide (Cur.drewN (w := V63) HC.out m64)
    generalize V63.drewN m64 = U64 at *
    obtain ⟨f0, f1, f2, f3, f4, f5, f6, f7, f8, f9, f10, ff⟩ := HF2.out.cells
    have HF3 := hide (HF2.out.set5 0)
    have HC3 := hide (HC2.out.kept (grown_cell U64 F 5 (.int .i64 0)) HNE.out)
    have HO3 := hide (HO2.out.trans (only_cell (g := g) 5 (.int .i64 0)))
    clear HC HF HO HF2 HO2 HC2
    go_wp2_with fail
    generalize hV : U64.setCell ⟨F, 5, none⟩ (.int .i64 0) = V64 at *
    clear hV f0 f1 f2 f3 f4 f5 f6 f7 f8 f9 f10 ff
    have HC := HC3
    have HF := HF3
    have HO := HO3
    clear HC3 HF3 HO3
    refine (take_err g _ n cap (some ⟨b, off, none⟩) 4 1 V64 HC.out (by omega) (by omega) (by omega) (by omega)).mono ?_
    rintro e u65 ⟨rfl, m65, rfl⟩
    have HF2 := hide (FR.drewN (w := V64) HF.out m65)
    have HO2 := hide (HO.out.trans (only_drewN V64 m65))
    have HC2 := hide (Cur.drewN (w := V64) HC.out m65)
    generalize V64.drewN m65 = U65 at *
    obtain ⟨f0, f1, f2, f3, f4, f5, f6, f7, f8, f9, f10, ff⟩ := HF2.out.cells
    have HF3 := hide (HF2.out.set6 0)
    have HC3 := hide (HC2.out.kept (grown_cell U65 F 6 (.int .i64 0)) HNE.out)
    have HO3 := hide (HO2.out.trans (only_cell (g := g) 6 (.int .i64 0)))
    clear HC HF HO HF2 HO2 HC2
    go_wp2_with fail
    generalize hV : U65.setCell ⟨F, 6, none⟩ (.int .i64 0) = V65 at *
    clear hV f0 f1 f2 f3 f4 f5 f6 f7 f8 f9 f10 ff
    have HC := HC3
    have HF := HF3
    have HO := HO3
    clear HC3 HF3 HO3
    refine (pass_err g _ n cap (some ⟨b, off, none⟩) 4 2 V65 HC.out (by omega) (by omega) (by omega) (by omega)).mono ?_
    rintro e u66 ⟨rfl, m66, rfl⟩
    have HF2 := hide (FR.drewN (w := V65) HF.out m66)
    have HO2 := hide (HO.out.trans (only_drewN V65 m66))
    have HC2 := hide (Cur.drewN (w := V65) HC.out m66)
    generalize V65.drewN m66 = V66 at *
    clear HC HF HO
    have HC := HC2
    have HF := HF2
    have HO := HO2
    clear HC2 HF2 HO2
    go_wp2_with fail
    refine (take_err g _ n cap (some ⟨b, off, none⟩) 4 4 V66 HC.out (by omega) (by omega) (by omega) (by omega)).mono ?_
    rintro e u67 ⟨rfl, m67, rfl⟩
    have HF2 := hide (FR.drewN (w := V66) HF.out m67)
    have HO2 := hide (HO.out.trans (only_drewN V66 m67))
    have HC2 := hide (Cur.drewN (w := V66) HC.out m67)
    generalize V66.drewN m67 = U67 at *
    obtain ⟨f0, f1, f2, f3, f4, f5, f6, f7, f8, f9, f10, ff⟩ := HF2.out.cells
    have HF3 := hide (HF2.out.set7 0)
    have HC3 := hide (HC2.out.kept (grown_cell U67 F 7 (.int .i64 0)) HNE.out)
    have HO3 := hide (HO2.out.trans (only_cell (g := g) 7 (.int .i64 0)))
    clear HC HF HO HF2 HO2 HC2
    go_wp2_with fail
    generalize hV : U67.setCell ⟨F, 7, none⟩ (.int .i64 0) = V67 at *
    clear hV f0 f1 f2 f3 f4 f5 f6 f7 f8 f9 f10 ff
    have HC := HC3
    have HF := HF3
    have HO := HO3
    clear HC3 HF3 HO3
    refine (take_err g _ n cap (some ⟨b, off, none⟩) 4 4 V67 HC.out (by omega) (by omega) (by omega) (by omega)).mono ?_
    rintro e u68 ⟨rfl, m68, rfl⟩
    have HF2 := hide (FR.drewN (w := V67) HF.out m68)
    have HO2 := hide (HO.out.trans (only_drewN V67 m68))
    have HC2 := hide (Cur.drewN (w := V67) HC.out m68)
    generalize V67.drewN m68 = U68 at *
    obtain ⟨f0, f1, f2, f3, f4, f5, f6, f7, f8, f9, f10, ff⟩ := HF2.out.cells
    have HF3 := hide (HF2.out.set8 0)
    have HC3 := hide (HC2.out.kept (grown_cell U68 F 8 (.int .i64 0)) HNE.out)
    have HO3 := hide (HO2.out.trans (only_cell (g := g) 8 (.int .i64 0)))
    clear HC HF HO HF2 HO2 HC2
    go_wp2_with fail
    generalize hV : U68.setCell ⟨F, 8, none⟩ (.int .i64 0) = V68 at *
    clear hV f0 f1 f2 f3 f4 f5 f6 f7 f8 f9 f10 ff
    have HC := HC3
    have HF := HF3
    have HO := HO3
    clear HC3 HF3 HO3
    obtain ⟨f0, f1, f2, f3, f4, f5, f6, f7, f8, f9, f10, ff⟩ := HF.out.cells
    refine (hsize_walk F y0 V68 f0).mono ?_
    rintro e v ⟨rfl, hv⟩
    rw [hv]
    clear hv f0 f1 f2 f3 f4 f5 f6 f7 f8 f9 f10 ff
    go_wp2_with fail
    refine (takeBytes_err g _ n cap (some ⟨b, off, none⟩) 4 _ V68 HC.out (by omega) (by omega) (by omega) (by omega)).mono ?_
    rintro e U ⟨rfl, hbU⟩
    have HF2 := hide (HF.out.only (Only.of_below (S := [g]) hbU) HNF.out)
    have HO2 := hide (HO.out.trans (Only.of_below hbU))
    have HC2 := hide (HC.out.below hbU HC.out.lt)
    clear HC HF HO hbU
    generalize V68.heap.size = K at *
    obtain ⟨f0, f1, f2, f3, f4, f5, f6, f7, f8, f9, f10, ff⟩ := HF2.out.cells
    have HF3 := hide (HF2.out.set9 (.slice (some ⟨K, 0, none⟩) 0 0))
    have HC3 := hide (HC2.out.kept (grown_cell U F 9 (.slice (some ⟨K, 0, none⟩) 0 0)) HNE.out)
    have HO3 := hide (HO2.out.trans (only_cell (g := g) 9 (.slice (some ⟨K, 0, none⟩) 0 0)))
    clear HF2 HO2 HC2
    go_wp2_with fail
    generalize hV : U.setCell ⟨F, 9, none⟩ (.slice (some ⟨K, 0, none⟩) 0 0) = V at *
    clear hV f0 f1 f2 f3 f4 f5 f6 f7 f8 f9 f10 ff
    refine (passed_walk g 1 n cap b off (wErr 4) V HC3.out (by omega) (by omega)).mono ?_
    rintro e v ⟨rfl, mp, rfl⟩
    go_wp2_with fail
    refine (checksum_walk (some ⟨b, off, none⟩) 1 cap (zs.take 1) _ (by rw [List.length_take, HN.out]; omega) (show Arr (V.drewN mp) _ _ from (arr_only HA.out HO3.out HAN.out).take 1) (by omega)).mono ?_
    rintro e X ⟨rfl, hbk, _⟩
    have hbX : Below V.heap.size V X := ⟨hbk.os, hbk.tape, hbk.output, hbk.size, hbk.block⟩
    have HF4 := hide (HF3.out.only (Only.of_below (S := [g]) hbX) HNF.out)
    have HO4 := hide (HO3.out.trans (Only.of_below hbX))
    have HC4 := hide (HC3.out.below hbX HC3.out.lt)
    clear HC3 HF3 HO3 hbk hbX
    go_wp2_with fail
    refine (demand_err g _ _ 4 _ _ X HC4.out).mono ?_
    rintro e v ⟨rfl, hv⟩
    rw [hv]
    clear hv
    go_wp2_with fail
    go_end0
    exact ⟨_, 1, rfl, HC4.out, HF4.out, HO4.out, by omega⟩

set_option maxHeartbeats 8000000 in
theorem takeHead_low (g F n cap b off : Nat) (zs : List Int) (w : World) (hc : Cur w g (.slice (some ⟨b, off, none⟩) n cap) 0 .nilIface) (hf : FR w F 0 0 0 0 0 0 0 0 0 (.slice none 0 0) (.slice none 0 0)) (hn : zs.length = n) (ha : Arr w (some ⟨b, off, none⟩) zs) (hm : n ≤ 1048576) (hcap : n ≤ cap) (h20 : 20 ≤ n) (hbg : b ≠ g) (hbF : b ≠ F) (hFg : F ≠ g) (y0 : Int) (hy0 : y0 = tnum ((zs.drop 0).take 1)) (hb0 : 0 ≤ y0) (hb1 : y0 ≤ 255) (hv : (y0 / 16 == 4) = true) (hs : decide ((20 : Int) ≤ y0 % 16 * 4) = false) :
    Calls Tryd.prog 24 #[.pointer (some ⟨F, 0, none⟩), .pointer (some ⟨g, 0, none⟩)] w fun e w' => ∃ (K p : Nat), e = .returned (.tuple #[]) ∧ Cur w' g (.slice (some ⟨b, off, none⟩) n cap) p (wErr 5) ∧ FR w' F y0 0 0 0 0 0 0 0 0 (.slice (some ⟨K, 0, none⟩) 0 0) (.slice none 0 0) ∧ Only [g, F] w w' ∧ p ≤ n := by
  have HA := hide ha
  have HN := hide hn
  have HNE : Hid (some g ≠ some F) := hide (by intro e; cases e; exact hFg rfl)
  have HNF : Hid (F ∉ [g]) := hide (by simp [hFg])
  have HAN : Hid (∀ j, j < zs.length → ∃ b' off', (some ⟨b, off, none⟩ : Option Addr) = some ⟨b', off', none⟩ ∧ b' ∉ [g, F]) := hide (fun j hj => ⟨b, off, rfl, by simp [hbg, hbF]⟩)
  have h20' : (20 : Int) ≤ (n : Int) := by omega
  have HY0 := hide hy0
  clear ha hn hy0
  have CL := hide (left0_walk g n cap (some ⟨b, off, none⟩) .nilIface w hc (by omega))
  have HC0 := hide hc
  have HF0 := hide hf
  clear hc hf
  go_enter Tryd.func24, Tryd.ntmps24
  go_wp2_with fail
  refine CL.out.mono ?_
  rintro e w1 ⟨rfl, m, rfl⟩
  have HC := hide (Cur.drewN (w := w) HC0.out m)
  have HF := hide (FR.drewN (w := w) HF0.out m)
  have HO : Hid (Only [g, F] w (w.drewN m)) := hide (only_drewN w m)
  clear HC0 HF0 CL
  generalize w.drewN m = W0 at *
  go_wp2_with fail
  refine (demand_yes g 0 _ 2 W0 HC.out).mono ?_
  rintro e v ⟨rfl, hv⟩
  rw [hv]
  clear hv
  go_wp2_with fail
  have t1 := tk1 g 0 n cap b off zs W0 HC.out (by omega) (by omega) hcap HN.out (arr_only HA.out HO.out HAN.out) hbg
  rw [show tnum ((zs.drop 0).take 1) = y0 from HY0.out.symm] at t1
  have T1 := hide t1
  clear t1
  refine T1.out.mono ?_
  rintro e u50 ⟨rfl, hc2, hg2⟩
  have HF2 := hide (HF.out.only (Only.of_some hg2) HNF.out)
  have HO2 := hide (HO.out.trans (only_g (F := F) hg2))
  obtain ⟨f0, f1, f2, f3, f4, f5, f6, f7, f8, f9, f10, ff⟩ := HF2.out.cells
  have HF3 := hide (HF2.out.set0 y0)
  have HC3 : Hid (Cur (u50.setCell ⟨F, 0, none⟩ (.int .i64 y0)) g (.slice (some ⟨b, off, none⟩) n cap) 1 .nilIface) := hide (hc2.kept (grown_cell u50 F 0 _) HNE.out)
  have HO3 := hide (HO2.out.trans (only_cell (g := g) 0 (.int .i64 y0)))
  clear T1 hc2 hg2 HC HF HO HF2 HO2
  go_wp2_with fail
  generalize hV : u50.setCell ⟨F, 0, none⟩ (.int .i64 y0) = V50 at *
  clear hV f0 f1 f2 f3 f4 f5 f6 f7 f8 f9 f10 ff
  have HC := HC3
  have HF := HF3
  have HO := HO3
  clear HC3 HF3 HO3
  obtain ⟨f0, f1, f2, f3, f4, f5, f6, f7, f8, f9, f10, ff⟩ := HF.out.cells
  refine (version_walk F y0 V50 f0).mono ?_
  rintro e v ⟨rfl, hv⟩
  rw [hv]
  clear hv f0 f1 f2 f3 f4 f5 f6 f7 f8 f9 f10 ff
  go_wp2_with fail
  refine (demand_yes g _ _ 4 V50 HC.out).mono ?_
  rintro e v ⟨rfl, hv⟩
  rw [hv]
  clear hv
  go_wp2_with fail
  have HC2 := hide (Cur.drew (w := V50) HC.out)
  have HF2 := hide (FR.drew (w := V50) HF.out)
  have HO2 := hide (HO.out.trans (only_drew V50))
  refine region_tail 14 (by kernel_rfl) (by kernel_rfl) ?_
  clear HC HF HO
  generalize V50.drew = VQ at *
  have HC := HC2
  have HF := HF2
  have HO := HO2
  clear HC2 HF2 HO2
  obtain ⟨f0, f1, f2, f3, f4, f5, f6, f7, f8, f9, f10, ff⟩ := HF.out.cells
  obtain ⟨c0, c1, c2, cf⟩ := HC.out.cells
  simp only [List.take_succ_cons, List.take_zero, List.drop_succ_cons, List.drop_zero]
  repeat (first | go_big_quiet_skip | (go_big_quiet_want; go_big_quiet_op; first | go_big_quiet_on | (apply Exists.intro; refine ⟨hsize_walk F y0 VQ f0, ?_⟩; go_big_quiet_on)))
  refine wpQuiet_nil ?_
  clear c0 c1 c2 cf f0 f1 f2 f3 f4 f5 f6 f7 f8 f9 f10 ff
  go_wp2_with fail
  refine (demand_no g _ _ 5 VQ HC.out).mono ?_
  rintro e V51 ⟨rfl, hc2, hg2⟩
  have HF2 := hide (HF.out.only (Only.of_some hg2) HNF.out)
  have HO2 := hide (HO.out.trans (only_g (F := F) hg2))
  have HC2 := hide hc2
  clear hc2 hg2 HC HF HO
  have HC := HC2
  have HF := HF2
  have HO := HO2
  clear HC2 HF2 HO2
  go_wp2_with fail
  refine (take_err g _ n cap (some ⟨b, off, none⟩) 5 1 V51 HC.out (by omega) (by omega) (by omega) (by omega)).mono ?_
  rintro e u60 ⟨rfl, m60, rfl⟩
  have HF2 := hide (FR.drewN (w := V51) HF.out m60)
  have HO2 := hide (HO.out.trans (only_drewN V51 m60))
  have HC2 := hide (Cur.drewN (w := V51) HC.out m60)
  generalize V51.drewN m60 = U60 at *
  obtain ⟨f0, f1, f2, f3, f4, f5, f6, f7, f8, f9, f10, ff⟩ := HF2.out.cells
  have HF3 := hide (HF2.out.set1 0)
  have HC3 := hide (HC2.out.kept (grown_cell U60 F 1 (.int .i64 0)) HNE.out)
  have HO3 := hide (HO2.out.trans (only_cell (g := g) 1 (.int .i64 0)))
  clear HC HF HO HF2 HO2 HC2
  go_wp2_with fail
  generalize hV : U60.setCell ⟨F, 1, none⟩ (.int .i64 0) = V60 at *
  clear hV f0 f1 f2 f3 f4 f5 f6 f7 f8 f9 f10 ff
  have HC := HC3
  have HF := HF3
  have HO := HO3
  clear HC3 HF3 HO3
  refine (take_err g _ n cap (some ⟨b, off, none⟩) 5 2 V60 HC.out (by omega) (by omega) (by omega) (by omega)).mono ?_
  rintro e u61 ⟨rfl, m61, rfl⟩
  have HF2 := hide (FR.drewN (w := V60) HF.out m61)
  have HO2 := hide (HO.out.trans (only_drewN V60 m61))
  have HC2 := hide (Cur.drewN (w := V60) HC.out m61)
  generalize V60.drewN m61 = U61 at *
  obtain ⟨f0, f1, f2, f3, f4, f5, f6, f7, f8, f9, f10, ff⟩ := HF2.out.cells
  have HF3 := hide (HF2.out.set2 0)
  have HC3 := hide (HC2.out.kept (grown_cell U61 F 2 (.int .i64 0)) HNE.out)
  have HO3 := hide (HO2.out.trans (only_cell (g := g) 2 (.int .i64 0)))
  clear HC HF HO HF2 HO2 HC2
  go_wp2_with fail
  generalize hV : U61.setCell ⟨F, 2, none⟩ (.int .i64 0) = V61 at *
  clear hV f0 f1 f2 f3 f4 f5 f6 f7 f8 f9 f10 ff
  have HC := HC3
  have HF := HF3
  have HO := HO3
  clear HC3 HF3 HO3
  refine (take_err g _ n cap (some ⟨b, off, none⟩) 5 2 V61 HC.out (by omega) (by omega) (by omega) (by omega)).mono ?_
  rintro e u62 ⟨rfl, m62, rfl⟩
  have HF2 := hide (FR.drewN (w := V61) HF.out m62)
  have HO2 := hide (HO.out.trans (only_drewN V61 m62))
  have HC2 := hide (Cur.drewN (w := V61) HC.out m62)
  generalize V61.drewN m62 = U62 at *
  obtain ⟨f0, f1, f2, f3, f4, f5, f6, f7, f8, f9, f10, ff⟩ := HF2.out.cells
  have HF3 := hide (HF2.out.set3 0)
  have HC3 := hide (HC2.out.kept (grown_cell U62 F 3 (.int .i64 0)) HNE.out)
  have HO3 := hide (HO2.out.trans (only_cell (g := g) 3 (.int .i64 0)))
  clear HC HF HO HF2 HO2 HC2
  go_wp2_with fail
  generalize hV : U62.setCell ⟨F, 3, none⟩ (.int .i64 0) = V62 at *
  clear hV f0 f1 f2 f3 f4 f5 f6 f7 f8 f9 f10 ff
  have HC := HC3
  have HF := HF3
  have HO := HO3
  clear HC3 HF3 HO3
  refine (take_err g _ n cap (some ⟨b, off, none⟩) 5 2 V62 HC.out (by omega) (by omega) (by omega) (by omega)).mono ?_
  rintro e u63 ⟨rfl, m63, rfl⟩
  have HF2 := hide (FR.drewN (w := V62) HF.out m63)
  have HO2 := hide (HO.out.trans (only_drewN V62 m63))
  have HC2 := hide (Cur.drewN (w := V62) HC.out m63)
  generalize V62.drewN m63 = U63 at *
  obtain ⟨f0, f1, f2, f3, f4, f5, f6, f7, f8, f9, f10, ff⟩ := HF2.out.cells
  have HF3 := hide (HF2.out.set4 0)
  have HC3 := hide (HC2.out.kept (grown_cell U63 F 4 (.int .i64 0)) HNE.out)
  have HO3 := hide (HO2.out.trans (only_cell (g := g) 4 (.int .i64 0)))
  clear HC HF HO HF2 HO2 HC2
  go_wp2_with fail
  generalize hV : U63.setCell ⟨F, 4, none⟩ (.int .i64 0) = V63 at *
  clear hV f0 f1 f2 f3 f4 f5 f6 f7 f8 f9 f10 ff
  have HC := HC3
  have HF := HF3
  have HO := HO3
  clear HC3 HF3 HO3
  refine (take_err g _ n cap (some ⟨b, off, none⟩) 5 1 V63 HC.out (by omega) (by omega) (by omega) (by omega)).mono ?_
  rintro e u64 ⟨rfl, m64, rfl⟩
  have HF2 := hide (FR.drewN (w := V63) HF.out m64)
  have HO2 := hide (HO.out.trans (only_drewN V63 m64))
  have HC2 := hide (Cur.drewN (w := V63) HC.out m64)
  generalize V63.drewN m64 = U64 at *
  obtain ⟨f0, f1, f2, f3, f4, f5, f6, f7, f8, f9, f10, ff⟩ := HF2.out.cells
  have HF3 := hide (HF2.out.set5 0)
  have HC3 := hide (HC2.out.kept (grown_cell U64 F 5 (.int .i64 0)) HNE.out)
  have HO3 := hide (HO2.out.trans (only_cell (g := g) 5 (.int .i64 0)))
  clear HC HF HO HF2 HO2 HC2
  go_wp2_with fail
  generalize hV : U64.setCell ⟨F, 5, none⟩ (.int .i64 0) = V64 at *
  clear hV f0 f1 f2 f3 f4 f5 f6 f7 f8 f9 f10 ff
  have HC := HC3
  have HF := HF3
  have HO := HO3
  clear HC3 HF3 HO3
  refine (take_err g _ n cap (some ⟨b, off, none⟩) 5 1 V64 HC.out (by omega) (by omega) (by omega) (by omega)).mono ?_
  rintro e u65 ⟨rfl, m65, rfl⟩
  have HF2 := hide (FR.drewN (w := V64) HF.out m65)
  have HO2 := hide (HO.out.trans (only_drewN V64 m65))
  have HC2 := hide (Cur.drewN (w := V64) HC.out m65)
  generalize V64.drewN m65 = U65 at *
  obtain ⟨f0, f1, f2, f3, f4, f5, f6, f7, f8, f9, f10, ff⟩ := HF2.out.cells
  have HF3 := hide (HF2.out.set6 0)
  have HC3 := hide (HC2.out.kept (grown_cell U65 F 6 (.int .i64 0)) HNE.out)
  have HO3 := hide (HO2.out.trans (only_cell (g := g) 6 (.int .i64 0)))
  clear HC HF HO HF2 HO2 HC2
  go_wp2_with fail
  generalize hV : U65.setCell ⟨F, 6, none⟩ (.int .i64 0) = V65 at *
  clear hV f0 f1 f2 f3 f4 f5 f6 f7 f8 f9 f10 ff
  have HC := HC3
  have HF := HF3
  have HO := HO3
  clear HC3 HF3 HO3
  refine (pass_err g _ n cap (some ⟨b, off, none⟩) 5 2 V65 HC.out (by omega) (by omega) (by omega) (by omega)).mono ?_
  rintro e u66 ⟨rfl, m66, rfl⟩
  have HF2 := hide (FR.drewN (w := V65) HF.out m66)
  have HO2 := hide (HO.out.trans (only_drewN V65 m66))
  have HC2 := hide (Cur.drewN (w := V65) HC.out m66)
  generalize V65.drewN m66 = V66 at *
  clear HC HF HO
  have HC := HC2
  have HF := HF2
  have HO := HO2
  clear HC2 HF2 HO2
  go_wp2_with fail
  refine (take_err g _ n cap (some ⟨b, off, none⟩) 5 4 V66 HC.out (by omega) (by omega) (by omega) (by omega)).mono ?_
  rintro e u67 ⟨rfl, m67, rfl⟩
  have HF2 := hide (FR.drewN (w := V66) HF.out m67)
  have HO2 := hide (HO.out.trans (only_drewN V66 m67))
  have HC2 := hide (Cur.drewN (w := V66) HC.out m67)
  generalize V66.drewN m67 = U67 at *
  obtain ⟨f0, f1, f2, f3, f4, f5, f6, f7, f8, f9, f10, ff⟩ := HF2.out.cells
  have HF3 := hide (HF2.out.set7 0)
  have HC3 := hide (HC2.out.kept (grown_cell U67 F 7 (.int .i64 0)) HNE.out)
  have HO3 := hide (HO2.out.trans (only_cell (g := g) 7 (.int .i64 0)))
  clear HC HF HO HF2 HO2 HC2
  go_wp2_with fail
  generalize hV : U67.setCell ⟨F, 7, none⟩ (.int .i64 0) = V67 at *
  clear hV f0 f1 f2 f3 f4 f5 f6 f7 f8 f9 f10 ff
  have HC := HC3
  have HF := HF3
  have HO := HO3
  clear HC3 HF3 HO3
  refine (take_err g _ n cap (some ⟨b, off, none⟩) 5 4 V67 HC.out (by omega) (by omega) (by omega) (by omega)).mono ?_
  rintro e u68 ⟨rfl, m68, rfl⟩
  have HF2 := hide (FR.drewN (w := V67) HF.out m68)
  have HO2 := hide (HO.out.trans (only_drewN V67 m68))
  have HC2 := hide (Cur.drewN (w := V67) HC.out m68)
  generalize V67.drewN m68 = U68 at *
  obtain ⟨f0, f1, f2, f3, f4, f5, f6, f7, f8, f9, f10, ff⟩ := HF2.out.cells
  have HF3 := hide (HF2.out.set8 0)
  have HC3 := hide (HC2.out.kept (grown_cell U68 F 8 (.int .i64 0)) HNE.out)
  have HO3 := hide (HO2.out.trans (only_cell (g := g) 8 (.int .i64 0)))
  clear HC HF HO HF2 HO2 HC2
  go_wp2_with fail
  generalize hV : U68.setCell ⟨F, 8, none⟩ (.int .i64 0) = V68 at *
  clear hV f0 f1 f2 f3 f4 f5 f6 f7 f8 f9 f10 ff
  have HC := HC3
  have HF := HF3
  have HO := HO3
  clear HC3 HF3 HO3
  obtain ⟨f0, f1, f2, f3, f4, f5, f6, f7, f8, f9, f10, ff⟩ := HF.out.cells
  refine (hsize_walk F y0 V68 f0).mono ?_
  rintro e v ⟨rfl, hv⟩
  rw [hv]
  clear hv f0 f1 f2 f3 f4 f5 f6 f7 f8 f9 f10 ff
  go_wp2_with fail
  refine (takeBytes_err g _ n cap (some ⟨b, off, none⟩) 5 _ V68 HC.out (by omega) (by omega) (by omega) (by omega)).mono ?_
  rintro e U ⟨rfl, hbU⟩
  have HF2 := hide (HF.out.only (Only.of_below (S := [g]) hbU) HNF.out)
  have HO2 := hide (HO.out.trans (Only.of_below hbU))
  have HC2 := hide (HC.out.below hbU HC.out.lt)
  clear HC HF HO hbU
  generalize V68.heap.size = K at *
  obtain ⟨f0, f1, f2, f3, f4, f5, f6, f7, f8, f9, f10, ff⟩ := HF2.out.cells
  have HF3 := hide (HF2.out.set9 (.slice (some ⟨K, 0, none⟩) 0 0))
  have HC3 := hide (HC2.out.kept (grown_cell U F 9 (.slice (some ⟨K, 0, none⟩) 0 0)) HNE.out)
  have HO3 := hide (HO2.out.trans (only_cell (g := g) 9 (.slice (some ⟨K, 0, none⟩) 0 0)))
  clear HF2 HO2 HC2
  go_wp2_with fail
  generalize hV : U.setCell ⟨F, 9, none⟩ (.slice (some ⟨K, 0, none⟩) 0 0) = V at *
  clear hV f0 f1 f2 f3 f4 f5 f6 f7 f8 f9 f10 ff
  refine (passed_walk g 1 n cap b off (wErr 5) V HC3.out (by omega) (by omega)).mono ?_
  rintro e v ⟨rfl, mp, rfl⟩
  go_wp2_with fail
  refine (checksum_walk (some ⟨b, off, none⟩) 1 cap (zs.take 1) _ (by rw [List.length_take, HN.out]; omega) (show Arr (V.drewN mp) _ _ from (arr_only HA.out HO3.out HAN.out).take 1) (by omega)).mono ?_
  rintro e X ⟨rfl, hbk, _⟩
  have hbX : Below V.heap.size V X := ⟨hbk.os, hbk.tape, hbk.output, hbk.size, hbk.block⟩
  have HF4 := hide (HF3.out.only (Only.of_below (S := [g]) hbX) HNF.out)
  have HO4 := hide (HO3.out.trans (Only.of_below hbX))
  have HC4 := hide (HC3.out.below hbX HC3.out.lt)
  clear HC3 HF3 HO3 hbk hbX
  go_wp2_with fail
  refine (demand_err g _ _ 5 _ _ X HC4.out).mono ?_
  rintro e v ⟨rfl, hv⟩
  rw [hv]
  clear hv
  go_wp2_with fail
  go_end0
  exact ⟨_, 1, rfl, HC4.out, HF4.out, HO4.out, by omega⟩

set_option maxHeartbeats 8000000 in
theorem takeHead_high (g F n cap b off : Nat) (zs : List Int) (w : World) (hc : Cur w g (.slice (some ⟨b, off, none⟩) n cap) 0 .nilIface) (hf : FR w F 0 0 0 0 0 0 0 0 0 (.slice none 0 0) (.slice none 0 0)) (hn : zs.length = n) (ha : Arr w (some ⟨b, off, none⟩) zs) (hm : n ≤ 1048576) (hcap : n ≤ cap) (h20 : 20 ≤ n) (hbg : b ≠ g) (hbF : b ≠ F) (hFg : F ≠ g) (y0 : Int) (hy0 : y0 = tnum ((zs.drop 0).take 1)) (hb0 : 0 ≤ y0) (hb1 : y0 ≤ 255) (hv : (y0 / 16 == 4) = true) (hs : (20 : Int) ≤ y0 % 16 * 4) (hs2 : decide (y0 % 16 * 4 ≤ (n : Int)) = false) :
    Calls Tryd.prog 24 #[.pointer (some ⟨F, 0, none⟩), .pointer (some ⟨g, 0, none⟩)] w fun e w' => ∃ (K p : Nat), e = .returned (.tuple #[]) ∧ Cur w' g (.slice (some ⟨b, off, none⟩) n cap) p (wErr 5) ∧ FR w' F y0 0 0 0 0 0 0 0 0 (.slice (some ⟨K, 0, none⟩) 0 0) (.slice none 0 0) ∧ Only [g, F] w w' ∧ p ≤ n := by
  have HA := hide ha
  have HN := hide hn
  have HNE : Hid (some g ≠ some F) := hide (by intro e; cases e; exact hFg rfl)
  have HNF : Hid (F ∉ [g]) := hide (by simp [hFg])
  have HAN : Hid (∀ j, j < zs.length → ∃ b' off', (some ⟨b, off, none⟩ : Option Addr) = some ⟨b', off', none⟩ ∧ b' ∉ [g, F]) := hide (fun j hj => ⟨b, off, rfl, by simp [hbg, hbF]⟩)
  have h20' : (20 : Int) ≤ (n : Int) := by omega
  have HY0 := hide hy0
  clear ha hn hy0
  have CL := hide (left0_walk g n cap (some ⟨b, off, none⟩) .nilIface w hc (by omega))
  have HC0 := hide hc
  have HF0 := hide hf
  clear hc hf
  go_enter Tryd.func24, Tryd.ntmps24
  go_wp2_with fail
  refine CL.out.mono ?_
  rintro e w1 ⟨rfl, m, rfl⟩
  have HC := hide (Cur.drewN (w := w) HC0.out m)
  have HF := hide (FR.drewN (w := w) HF0.out m)
  have HO : Hid (Only [g, F] w (w.drewN m)) := hide (only_drewN w m)
  clear HC0 HF0 CL
  generalize w.drewN m = W0 at *
  go_wp2_with fail
  refine (demand_yes g 0 _ 2 W0 HC.out).mono ?_
  rintro e v ⟨rfl, hv⟩
  rw [hv]
  clear hv
  go_wp2_with fail
  have t1 := tk1 g 0 n cap b off zs W0 HC.out (by omega) (by omega) hcap HN.out (arr_only HA.out HO.out HAN.out) hbg
  rw [show tnum ((zs.drop 0).take 1) = y0 from HY0.out.symm] at t1
  have T1 := hide t1
  clear t1
  refine T1.out.mono ?_
  rintro e u50 ⟨rfl, hc2, hg2⟩
  have HF2 := hide (HF.out.only (Only.of_some hg2) HNF.out)
  have HO2 := hide (HO.out.trans (only_g (F := F) hg2))
  obtain ⟨f0, f1, f2, f3, f4, f5, f6, f7, f8, f9, f10, ff⟩ := HF2.out.cells
  have HF3 := hide (HF2.out.set0 y0)
  have HC3 : Hid (Cur (u50.setCell ⟨F, 0, none⟩ (.int .i64 y0)) g (.slice (some ⟨b, off, none⟩) n cap) 1 .nilIface) := hide (hc2.kept (grown_cell u50 F 0 _) HNE.out)
  have HO3 := hide (HO2.out.trans (only_cell (g := g) 0 (.int .i64 y0)))
  clear T1 hc2 hg2 HC HF HO HF2 HO2
  go_wp2_with fail
  generalize hV : u50.setCell ⟨F, 0, none⟩ (.int .i64 y0) = V50 at *
  clear hV f0 f1 f2 f3 f4 f5 f6 f7 f8 f9 f10 ff
  have HC := HC3
  have HF := HF3
  have HO := HO3
  clear HC3 HF3 HO3
  obtain ⟨f0, f1, f2, f3, f4, f5, f6, f7, f8, f9, f10, ff⟩ := HF.out.cells
  refine (version_walk F y0 V50 f0).mono ?_
  rintro e v ⟨rfl, hv⟩
  rw [hv]
  clear hv f0 f1 f2 f3 f4 f5 f6 f7 f8 f9 f10 ff
  go_wp2_with fail
  refine (demand_yes g _ _ 4 V50 HC.out).mono ?_
  rintro e v ⟨rfl, hv⟩
  rw [hv]
  clear hv
  go_wp2_with fail
  have HC2 := hide (Cur.drew (w := V50) HC.out)
  have HF2 := hide (FR.drew (w := V50) HF.out)
  have HO2 := hide (HO.out.trans (only_drew V50))
  refine region_tail 14 (by kernel_rfl) (by kernel_rfl) ?_
  clear HC HF HO
  generalize V50.drew = VQ at *
  have HC := HC2
  have HF := HF2
  have HO := HO2
  clear HC2 HF2 HO2
  obtain ⟨f0, f1, f2, f3, f4, f5, f6, f7, f8, f9, f10, ff⟩ := HF.out.cells
  obtain ⟨c0, c1, c2, cf⟩ := HC.out.cells
  simp only [List.take_succ_cons, List.take_zero, List.drop_succ_cons, List.drop_zero]
  repeat (first | go_big_quiet_skip | (go_big_quiet_want; go_big_quiet_op; first | go_big_quiet_on | (apply Exists.intro; refine ⟨hsize_walk F y0 VQ f0, ?_⟩; go_big_quiet_on)))
  refine wpQuiet_nil ?_
  clear c0 c1 c2 cf f0 f1 f2 f3 f4 f5 f6 f7 f8 f9 f10 ff
  go_wp2_with fail
  refine (demand_no g _ _ 5 VQ HC.out).mono ?_
  rintro e V51 ⟨rfl, hc2, hg2⟩
  have HF2 := hide (HF.out.only (Only.of_some hg2) HNF.out)
  have HO2 := hide (HO.out.trans (only_g (F := F) hg2))
  have HC2 := hide hc2
  clear hc2 hg2 HC HF HO
  have HC := HC2
  have HF := HF2
  have HO := HO2
  clear HC2 HF2 HO2
  go_wp2_with fail
  refine (take_err g _ n cap (some ⟨b, off, none⟩) 5 1 V51 HC.out (by omega) (by omega) (by omega) (by omega)).mono ?_
  rintro e u60 ⟨rfl, m60, rfl⟩
  have HF2 := hide (FR.drewN (w := V51) HF.out m60)
  have HO2 := hide (HO.out.trans (only_drewN V51 m60))
  have HC2 := hide (Cur.drewN (w := V51) HC.out m60)
  generalize V51.drewN m60 = U60 at *
  obtain ⟨f0, f1, f2, f3, f4, f5, f6, f7, f8, f9, f10, ff⟩ := HF2.out.cells
  have HF3 := hide (HF2.out.set1 0)
  have HC3 := hide (HC2.out.kept (grown_cell U60 F 1 (.int .i64 0)) HNE.out)
  have HO3 := hide (HO2.out.trans (only_cell (g := g) 1 (.int .i64 0)))
  clear HC HF HO HF2 HO2 HC2
  go_wp2_with fail
  generalize hV : U60.setCell ⟨F, 1, none⟩ (.int .i64 0) = V60 at *
  clear hV f0 f1 f2 f3 f4 f5 f6 f7 f8 f9 f10 ff
  have HC := HC3
  have HF := HF3
  have HO := HO3
  clear HC3 HF3 HO3
  refine (take_err g _ n cap (some ⟨b, off, none⟩) 5 2 V60 HC.out (by omega) (by omega) (by omega) (by omega)).mono ?_
  rintro e u61 ⟨rfl, m61, rfl⟩
  have HF2 := hide (FR.drewN (w := V60) HF.out m61)
  have HO2 := hide (HO.out.trans (only_drewN V60 m61))
  have HC2 := hide (Cur.drewN (w := V60) HC.out m61)
  generalize V60.drewN m61 = U61 at *
  obtain ⟨f0, f1, f2, f3, f4, f5, f6, f7, f8, f9, f10, ff⟩ := HF2.out.cells
  have HF3 := hide (HF2.out.set2 0)
  have HC3 := hide (HC2.out.kept (grown_cell U61 F 2 (.int .i64 0)) HNE.out)
  have HO3 := hide (HO2.out.trans (only_cell (g := g) 2 (.int .i64 0)))
  clear HC HF HO HF2 HO2 HC2
  go_wp2_with fail
  generalize hV : U61.setCell ⟨F, 2, none⟩ (.int .i64 0) = V61 at *
  clear hV f0 f1 f2 f3 f4 f5 f6 f7 f8 f9 f10 ff
  have HC := HC3
  have HF := HF3
  have HO := HO3
  clear HC3 HF3 HO3
  refine (take_err g _ n cap (some ⟨b, off, none⟩) 5 2 V61 HC.out (by omega) (by omega) (by omega) (by omega)).mono ?_
  rintro e u62 ⟨rfl, m62, rfl⟩
  have HF2 := hide (FR.drewN (w := V61) HF.out m62)
  have HO2 := hide (HO.out.trans (only_drewN V61 m62))
  have HC2 := hide (Cur.drewN (w := V61) HC.out m62)
  generalize V61.drewN m62 = U62 at *
  obtain ⟨f0, f1, f2, f3, f4, f5, f6, f7, f8, f9, f10, ff⟩ := HF2.out.cells
  have HF3 := hide (HF2.out.set3 0)
  have HC3 := hide (HC2.out.kept (grown_cell U62 F 3 (.int .i64 0)) HNE.out)
  have HO3 := hide (HO2.out.trans (only_cell (g := g) 3 (.int .i64 0)))
  clear HC HF HO HF2 HO2 HC2
  go_wp2_with fail
  generalize hV : U62.setCell ⟨F, 3, none⟩ (.int .i64 0) = V62 at *
  clear hV f0 f1 f2 f3 f4 f5 f6 f7 f8 f9 f10 ff
  have HC := HC3
  have HF := HF3
  have HO := HO3
  clear HC3 HF3 HO3
  refine (take_err g _ n cap (some ⟨b, off, none⟩) 5 2 V62 HC.out (by omega) (by omega) (by omega) (by omega)).mono ?_
  rintro e u63 ⟨rfl, m63, rfl⟩
  have HF2 := hide (FR.drewN (w := V62) HF.out m63)
  have HO2 := hide (HO.out.trans (only_drewN V62 m63))
  have HC2 := hide (Cur.drewN (w := V62) HC.out m63)
  generalize V62.drewN m63 = U63 at *
  obtain ⟨f0, f1, f2, f3, f4, f5, f6, f7, f8, f9, f10, ff⟩ := HF2.out.cells
  have HF3 := hide (HF2.out.set4 0)
  have HC3 := hide (HC2.out.kept (grown_cell U63 F 4 (.int .i64 0)) HNE.out)
  have HO3 := hide (HO2.out.trans (only_cell (g := g) 4 (.int .i64 0)))
  clear HC HF HO HF2 HO2 HC2
  go_wp2_with fail
  generalize hV : U63.setCell ⟨F, 4, none⟩ (.int .i64 0) = V63 at *
  clear hV f0 f1 f2 f3 f4 f5 f6 f7 f8 f9 f10 ff
  have HC := HC3
  have HF := HF3
  have HO := HO3
  clear HC3 HF3 HO3
  refine (take_err g _ n cap (some ⟨b, off, none⟩) 5 1 V63 HC.out (by omega) (by omega) (by omega) (by omega)).mono ?_
  rintro e u64 ⟨rfl, m64, rfl⟩
  have HF2 := hide (FR.drewN (w := V63) HF.out m64)
  have HO2 := hide (HO.out.trans (only_drewN V63 m64))
  have HC2 := hide (Cur.drewN (w := V63) HC.out m64)
  generalize V63.drewN m64 = U64 at *
  obtain ⟨f0, f1, f2, f3, f4, f5, f6, f7, f8, f9, f10, ff⟩ := HF2.out.cells
  have HF3 := hide (HF2.out.set5 0)
  have HC3 := hide (HC2.out.kept (grown_cell U64 F 5 (.int .i64 0)) HNE.out)
  have HO3 := hide (HO2.out.trans (only_cell (g := g) 5 (.int .i64 0)))
  clear HC HF HO HF2 HO2 HC2
  go_wp2_with fail
  generalize hV : U64.setCell ⟨F, 5, none⟩ (.int .i64 0) = V64 at *
  clear hV f0 f1 f2 f3 f4 f5 f6 f7 f8 f9 f10 ff
  have HC := HC3
  have HF := HF3
  have HO := HO3
  clear HC3 HF3 HO3
  refine (take_err g _ n cap (some ⟨b, off, none⟩) 5 1 V64 HC.out (by omega) (by omega) (by omega) (by omega)).mono ?_
  rintro e u65 ⟨rfl, m65, rfl⟩
  have HF2 := hide (FR.drewN (w := V64) HF.out m65)
  have HO2 := hide (HO.out.trans (only_drewN V64 m65))
  have HC2 := hide (Cur.drewN (w := V64) HC.out m65)
  generalize V64.drewN m65 = U65 at *
  obtain ⟨f0, f1, f2, f3, f4, f5, f6, f7, f8, f9, f10, ff⟩ := HF2.out.cells
  have HF3 := hide (HF2.out.set6 0)
  have HC3 := hide (HC2.out.kept (grown_cell U65 F 6 (.int .i64 0)) HNE.out)
  have HO3 := hide (HO2.out.trans (only_cell (g := g) 6 (.int .i64 0)))
  clear HC HF HO HF2 HO2 HC2
  go_wp2_with fail
  generalize hV : U65.setCell ⟨F, 6, none⟩ (.int .i64 0) = V65 at *
  clear hV f0 f1 f2 f3 f4 f5 f6 f7 f8 f9 f10 ff
  have HC := HC3
  have HF := HF3
  have HO := HO3
  clear HC3 HF3 HO3
  refine (pass_err g _ n cap (some ⟨b, off, none⟩) 5 2 V65 HC.out (by omega) (by omega) (by omega) (by omega)).mono ?_
  rintro e u66 ⟨rfl, m66, rfl⟩
  have HF2 := hide (FR.drewN (w := V65) HF.out m66)
  have HO2 := hide (HO.out.trans (only_drewN V65 m66))
  have HC2 := hide (Cur.drewN (w := V65) HC.out m66)
  generalize V65.drewN m66 = V66 at *
  clear HC HF HO
  have HC := HC2
  have HF := HF2
  have HO := HO2
  clear HC2 HF2 HO2
  go_wp2_with fail
  refine (take_err g _ n cap (some ⟨b, off, none⟩) 5 4 V66 HC.out (by omega) (by omega) (by omega) (by omega)).mono ?_
  rintro e u67 ⟨rfl, m67, rfl⟩
  have HF2 := hide (FR.drewN (w := V66) HF.out m67)
  have HO2 := hide (HO.out.trans (only_drewN V66 m67))
  have HC2 := hide (Cur.drewN (w := V66) HC.out m67)
  generalize V66.drewN m67 = U67 at *
  obtain ⟨f0, f1, f2, f3, f4, f5, f6, f7, f8, f9, f10, ff⟩ := HF2.out.cells
  have HF3 := hide (HF2.out.set7 0)
  have HC3 := hide (HC2.out.kept (grown_cell U67 F 7 (.int .i64 0)) HNE.out)
  have HO3 := hide (HO2.out.trans (only_cell (g := g) 7 (.int .i64 0)))
  clear HC HF HO HF2 HO2 HC2
  go_wp2_with fail
  generalize hV : U67.setCell ⟨F, 7, none⟩ (.int .i64 0) = V67 at *
  clear hV f0 f1 f2 f3 f4 f5 f6 f7 f8 f9 f10 ff
  have HC := HC3
  have HF := HF3
  have HO := HO3
  clear HC3 HF3 HO3
  refine (take_err g _ n cap (some ⟨b, off, none⟩) 5 4 V67 HC.out (by omega) (by omega) (by omega) (by omega)).mono ?_
  rintro e u68 ⟨rfl, m68, rfl⟩
  have HF2 := hide (FR.drewN (w := V67) HF.out m68)
  have HO2 := hide (HO.out.trans (only_drewN V67 m68))
  have HC2 := hide (Cur.drewN (w := V67) HC.out m68)
  generalize V67.drewN m68 = U68 at *
  obtain ⟨f0, f1, f2, f3, f4, f5, f6, f7, f8, f9, f10, ff⟩ := HF2.out.cells
  have HF3 := hide (HF2.out.set8 0)
  have HC3 := hide (HC2.out.kept (grown_cell U68 F 8 (.int .i64 0)) HNE.out)
  have HO3 := hide (HO2.out.trans (only_cell (g := g) 8 (.int .i64 0)))
  clear HC HF HO HF2 HO2 HC2
  go_wp2_with fail
  generalize hV : U68.setCell ⟨F, 8, none⟩ (.int .i64 0) = V68 at *
  clear hV f0 f1 f2 f3 f4 f5 f6 f7 f8 f9 f10 ff
  have HC := HC3
  have HF := HF3
  have HO := HO3
  clear HC3 HF3 HO3
  obtain ⟨f0, f1, f2, f3, f4, f5, f6, f7, f8, f9, f10, ff⟩ := HF.out.cells
  refine (hsize_walk F y0 V68 f0).mono ?_
  rintro e v ⟨rfl, hv⟩
  rw [hv]
  clear hv f0 f1 f2 f3 f4 f5 f6 f7 f8 f9 f10 ff
  go_wp2_with fail
  refine (takeBytes_err g _ n cap (some ⟨b, off, none⟩) 5 _ V68 HC.out (by omega) (by omega) (by omega) (by omega)).mono ?_
  rintro e U ⟨rfl, hbU⟩
  have HF2 := hide (HF.out.only (Only.of_below (S := [g]) hbU) HNF.out)
  have HO2 := hide (HO.out.trans (Only.of_below hbU))
  have HC2 := hide (HC.out.below hbU HC.out.lt)
  clear HC HF HO hbU
  generalize V68.heap.size = K at *
  obtain ⟨f0, f1, f2, f3, f4, f5, f6, f7, f8, f9, f10, ff⟩ := HF2.out.cells
  have HF3 := hide (HF2.out.set9 (.slice (some ⟨K, 0, none⟩) 0 0))
  have HC3 := hide (HC2.out.kept (grown_cell U F 9 (.slice (some ⟨K, 0, none⟩) 0 0)) HNE.out)
  have HO3 := hide (HO2.out.trans (only_cell (g := g) 9 (.slice (some ⟨K, 0, none⟩) 0 0)))
  clear HF2 HO2 HC2
  go_wp2_with fail
  generalize hV : U.setCell ⟨F, 9, none⟩ (.slice (some ⟨K, 0, none⟩) 0 0) = V at *
  clear hV f0 f1 f2 f3 f4 f5 f6 f7 f8 f9 f10 ff
  refine (passed_walk g 1 n cap b off (wErr 5) V HC3.out (by omega) (by omega)).mono ?_
  rintro e v ⟨rfl, mp, rfl⟩
  go_wp2_with fail
  refine (checksum_walk (some ⟨b, off, none⟩) 1 cap (zs.take 1) _ (by rw [List.length_take, HN.out]; omega) (show Arr (V.drewN mp) _ _ from (arr_only HA.out HO3.out HAN.out).take 1) (by omega)).mono ?_
  rintro e X ⟨rfl, hbk, _⟩
  have hbX : Below V.heap.size V X := ⟨hbk.os, hbk.tape, hbk.output, hbk.size, hbk.block⟩
  have HF4 := hide (HF3.out.only (Only.of_below (S := [g]) hbX) HNF.out)
  have HO4 := hide (HO3.out.trans (Only.of_below hbX))
  have HC4 := hide (HC3.out.below hbX HC3.out.lt)
  clear HC3 HF3 HO3 hbk hbX
  go_wp2_with fail
  refine (demand_err g _ _ 5 _ _ X HC4.out).mono ?_
  rintro e v ⟨rfl, hv⟩
  rw [hv]
  clear hv
  go_wp2_with fail
  go_end0
  exact ⟨_, 1, rfl, HC4.out, HF4.out, HO4.out, by omega⟩

set_option maxHeartbeats 8000000 in
theorem takeHead_long (g F n cap b off : Nat) (zs : List Int) (w : World) (hc : Cur w g (.slice (some ⟨b, off, none⟩) n cap) 0 .nilIface) (hf : FR w F 0 0 0 0 0 0 0 0 0 (.slice none 0 0) (.slice none 0 0)) (hn : zs.length = n) (ha : Arr w (some ⟨b, off, none⟩) zs) (hm : n ≤ 1048576) (hcap : n ≤ cap) (h20 : 20 ≤ n) (hbg : b ≠ g) (hbF : b ≠ F) (hFg : F ≠ g) (y0 : Int) (hy0 : y0 = tnum ((zs.drop 0).take 1)) (hb0 : 0 ≤ y0) (hb1 : y0 ≤ 255) (hv : (y0 / 16 == 4) = true) (hs : (20 : Int) ≤ y0 % 16 * 4) (hs2 : y0 % 16 * 4 ≤ (n : Int)) (y1 : Int) (hy1 : y1 = tnum ((zs.drop 1).take 1)) (y2 : Int) (hy2 : y2 = tnum ((zs.drop 2).take 2)) (y3 : Int) (hy3 : y3 = tnum ((zs.drop 4).take 2)) (y4 : Int) (hy4 : y4 = tnum ((zs.drop 6).take 2)) (y5 : Int) (hy5 : y5 = tnum ((zs.drop 8).take 1)) (y6 : Int) (hy6 : y6 = tnum ((zs.drop 9).take 1)) (y7 : Int) (hy7 : y7 = tnum ((zs.drop 12).take 4)) (y8 : Int) (hy8 : y8 = tnum ((zs.drop 16).take 4)) (ko : Nat) (hko : y0 % 16 * 4 - 20 = (ko : Int)) (E : Bool) (hE : (csum (zs.take (20 + ko)) == 0) = E) (ev : Value) (hev : (if E then Value.nilIface else wErr 3) = ev) :
    Calls Tryd.prog 24 #[.pointer (some ⟨F, 0, none⟩), .pointer (some ⟨g, 0, none⟩)] w fun e w' => ∃ (ao : Option Addr) (co : Nat), e = .returned (.tuple #[]) ∧ Cur w' g (.slice (some ⟨b, off, none⟩) n cap) (20 + ko) ev ∧ FR w' F y0 y1 y2 y3 y4 y5 y6 y7 y8 (.slice ao ko co) (.slice none 0 0) ∧ OwnB w' w.heap.size (.slice ao ko co) ((zs.drop 20).take ko) ∧ Only [g, F] w w' := by
  have HA := hide ha
  have HN := hide hn
  have HNE : Hid (some g ≠ some F) := hide (by intro e; cases e; exact hFg rfl)
  have HNF : Hid (F ∉ [g]) := hide (by simp [hFg])
  have HAN : Hid (∀ j, j < zs.length → ∃ b' off', (some ⟨b, off, none⟩ : Option Addr) = some ⟨b', off', none⟩ ∧ b' ∉ [g, F]) := hide (fun j hj => ⟨b, off, rfl, by simp [hbg, hbF]⟩)
  have h20' : (20 : Int) ≤ (n : Int) := by omega
  have HY0 := hide hy0
  clear ha hn hy0
  have HY1 := hide hy1
  clear hy1
  have HY2 := hide hy2
  clear hy2
  have HY3 := hide hy3
  clear hy3
  have HY4 := hide hy4
  clear hy4
  have HY5 := hide hy5
  clear hy5
  have HY6 := hide hy6
  clear hy6
  have HY7 := hide hy7
  clear hy7
  have HY8 := hide hy8
  clear hy8
  have HKO := hide hko
  have HE := hide hE
  have HEV := hide hev
  clear hko hE hev
  have hFl := hf.lt
  have hgl := hc.lt
  have HKN : Hid (20 + ko ≤ n) := hide (by have := HKO.out; omega)
  have CL := hide (left0_walk g n cap (some ⟨b, off, none⟩) .nilIface w hc (by omega))
  have HC0 := hide hc
  have HF0 := hide hf
  clear hc hf
  go_enter Tryd.func24, Tryd.ntmps24
  go_wp2_with fail
  refine CL.out.mono ?_
  rintro e w1 ⟨rfl, m, rfl⟩
  have HC := hide (Cur.drewN (w := w) HC0.out m)
  have HF := hide (FR.drewN (w := w) HF0.out m)
  have HO : Hid (Only [g, F] w (w.drewN m)) := hide (only_drewN w m)
  clear HC0 HF0 CL
  generalize w.drewN m = W0 at *
  go_wp2_with fail
  refine (demand_yes g 0 _ 2 W0 HC.out).mono ?_
  rintro e v ⟨rfl, hv⟩
  rw [hv]
  clear hv
  go_wp2_with fail
  have t1 := tk1 g 0 n cap b off zs W0 HC.out (by omega) (by omega) hcap HN.out (arr_only HA.out HO.out HAN.out) hbg
  rw [show tnum ((zs.drop 0).take 1) = y0 from HY0.out.symm] at t1
  have T1 := hide t1
  clear t1
  refine T1.out.mono ?_
  rintro e u50 ⟨rfl, hc2, hg2⟩
  have HF2 := hide (HF.out.only (Only.of_some hg2) HNF.out)
  have HO2 := hide (HO.out.trans (only_g (F := F) hg2))
  obtain ⟨f0, f1, f2, f3, f4, f5, f6, f7, f8, f9, f10, ff⟩ := HF2.out.cells
  have HF3 := hide (HF2.out.set0 y0)
  have HC3 : Hid (Cur (u50.setCell ⟨F, 0, none⟩ (.int .i64 y0)) g (.slice (some ⟨b, off, none⟩) n cap) 1 .nilIface) := hide (hc2.kept (grown_cell u50 F 0 _) HNE.out)
  have HO3 := hide (HO2.out.trans (only_cell (g := g) 0 (.int .i64 y0)))
  clear T1 hc2 hg2 HC HF HO HF2 HO2
  go_wp2_with fail
  generalize hV : u50.setCell ⟨F, 0, none⟩ (.int .i64 y0) = V50 at *
  clear hV f0 f1 f2 f3 f4 f5 f6 f7 f8 f9 f10 ff
  have HC := HC3
  have HF := HF3
  have HO := HO3
  clear HC3 HF3 HO3
  obtain ⟨f0, f1, f2, f3, f4, f5, f6, f7, f8, f9, f10, ff⟩ := HF.out.cells
  refine (version_walk F y0 V50 f0).mono ?_
  rintro e v ⟨rfl, hv⟩
  rw [hv]
  clear hv f0 f1 f2 f3 f4 f5 f6 f7 f8 f9 f10 ff
  go_wp2_with fail
  refine (demand_yes g _ _ 4 V50 HC.out).mono ?_
  rintro e v ⟨rfl, hv⟩
  rw [hv]
  clear hv
  go_wp2_with fail
  have HC2 := hide (Cur.drew (w := V50) HC.out)
  have HF2 := hide (FR.drew (w := V50) HF.out)
  have HO2 := hide (HO.out.trans (only_drew V50))
  refine region_tail 14 (by kernel_rfl) (by kernel_rfl) ?_
  clear HC HF HO
  generalize V50.drew = VQ at *
  have HC := HC2
  have HF := HF2
  have HO := HO2
  clear HC2 HF2 HO2
  obtain ⟨f0, f1, f2, f3, f4, f5, f6, f7, f8, f9, f10, ff⟩ := HF.out.cells
  obtain ⟨c0, c1, c2, cf⟩ := HC.out.cells
  simp only [List.take_succ_cons, List.take_zero, List.drop_succ_cons, List.drop_zero]
  repeat (first | go_big_quiet_skip | (go_big_quiet_want; go_big_quiet_op; first | go_big_quiet_on | (apply Exists.intro; refine ⟨hsize_walk F y0 VQ f0, ?_⟩; go_big_quiet_on)))
  refine wpQuiet_nil ?_
  clear c0 c1 c2 cf f0 f1 f2 f3 f4 f5 f6 f7 f8 f9 f10 ff
  go_wp2_with fail
  refine (demand_yes g _ _ 5 VQ HC.out).mono ?_
  rintro e v ⟨rfl, hv⟩
  rw [hv]
  clear hv
  go_wp2_with fail
  have t1 := tk1 g 1 n cap b off zs VQ HC.out (by omega) (by omega) hcap HN.out (arr_only HA.out HO.out HAN.out) hbg
  rw [show tnum ((zs.drop 1).take 1) = y1 from HY1.out.symm] at t1
  have T1 := hide t1
  clear t1
  refine T1.out.mono ?_
  rintro e u60 ⟨rfl, hc2, hg2⟩
  have HF2 := hide (HF.out.only (Only.of_some hg2) HNF.out)
  have HO2 := hide (HO.out.trans (only_g (F := F) hg2))
  obtain ⟨f0, f1, f2, f3, f4, f5, f6, f7, f8, f9, f10, ff⟩ := HF2.out.cells
  have HF3 := hide (HF2.out.set1 y1)
  have HC3 : Hid (Cur (u60.setCell ⟨F, 1, none⟩ (.int .i64 y1)) g (.slice (some ⟨b, off, none⟩) n cap) 2 .nilIface) := hide (hc2.kept (grown_cell u60 F 1 _) HNE.out)
  have HO3 := hide (HO2.out.trans (only_cell (g := g) 1 (.int .i64 y1)))
  clear T1 hc2 hg2 HC HF HO HF2 HO2
  go_wp2_with fail
  generalize hV : u60.setCell ⟨F, 1, none⟩ (.int .i64 y1) = V60 at *
  clear hV f0 f1 f2 f3 f4 f5 f6 f7 f8 f9 f10 ff
  have HC := HC3
  have HF := HF3
  have HO := HO3
  clear HC3 HF3 HO3
  have t1 := tk2 g 2 n cap b off zs V60 HC.out (by omega) (by omega) hcap HN.out (arr_only HA.out HO.out HAN.out) hbg
  rw [show tnum ((zs.drop 2).take 2) = y2 from HY2.out.symm] at t1
  have T1 := hide t1
  clear t1
  refine T1.out.mono ?_
  rintro e u61 ⟨rfl, hc2, hg2⟩
  have HF2 := hide (HF.out.only (Only.of_some hg2) HNF.out)
  have HO2 := hide (HO.out.trans (only_g (F := F) hg2))
  obtain ⟨f0, f1, f2, f3, f4, f5, f6, f7, f8, f9, f10, ff⟩ := HF2.out.cells
  have HF3 := hide (HF2.out.set2 y2)
  have HC3 : Hid (Cur (u61.setCell ⟨F, 2, none⟩ (.int .i64 y2)) g (.slice (some ⟨b, off, none⟩) n cap) 4 .nilIface) := hide (hc2.kept (grown_cell u61 F 2 _) HNE.out)
  have HO3 := hide (HO2.out.trans (only_cell (g := g) 2 (.int .i64 y2)))
  clear T1 hc2 hg2 HC HF HO HF2 HO2
  go_wp2_with fail
  generalize hV : u61.setCell ⟨F, 2, none⟩ (.int .i64 y2) = V61 at *
  clear hV f0 f1 f2 f3 f4 f5 f6 f7 f8 f9 f10 ff
  have HC := HC3
  have HF := HF3
  have HO := HO3
  clear HC3 HF3 HO3
  have t1 := tk2 g 4 n cap b off zs V61 HC.out (by omega) (by omega) hcap HN.out (arr_only HA.out HO.out HAN.out) hbg
  rw [show tnum ((zs.drop 4).take 2) = y3 from HY3.out.symm] at t1
  have T1 := hide t1
  clear t1
  refine T1.out.mono ?_
  rintro e u62 ⟨rfl, hc2, hg2⟩
  have HF2 := hide (HF.out.only (Only.of_some hg2) HNF.out)
  have HO2 := hide (HO.out.trans (only_g (F := F) hg2))
  obtain ⟨f0, f1, f2, f3, f4, f5, f6, f7, f8, f9, f10, ff⟩ := HF2.out.cells
  have HF3 := hide (HF2.out.set3 y3)
  have HC3 : Hid (Cur (u62.setCell ⟨F, 3, none⟩ (.int .i64 y3)) g (.slice (some ⟨b, off, none⟩) n cap) 6 .nilIface) := hide (hc2.kept (grown_cell u62 F 3 _) HNE.out)
  have HO3 := hide (HO2.out.trans (only_cell (g := g) 3 (.int .i64 y3)))
  clear T1 hc2 hg2 HC HF HO HF2 HO2
  go_wp2_with fail
  generalize hV : u62.setCell ⟨F, 3, none⟩ (.int .i64 y3) = V62 at *
  clear hV f0 f1 f2 f3 f4 f5 f6 f7 f8 f9 f10 ff
  have HC := HC3
  have HF := HF3
  have HO := HO3
  clear HC3 HF3 HO3
  have t1 := tk2 g 6 n cap b off zs V62 HC.out (by omega) (by omega) hcap HN.out (arr_only HA.out HO.out HAN.out) hbg
  rw [show tnum ((zs.drop 6).take 2) = y4 from HY4.out.symm] at t1
  have T1 := hide t1
  clear t1
  refine T1.out.mono ?_
  rintro e u63 ⟨rfl, hc2, hg2⟩
  have HF2 := hide (HF.out.only (Only.of_some hg2) HNF.out)
  have HO2 := hide (HO.out.trans (only_g (F := F) hg2))
  obtain ⟨f0, f1, f2, f3, f4, f5, f6, f7, f8, f9, f10, ff⟩ := HF2.out.cells
  have HF3 := hide (HF2.out.set4 y4)
  have HC3 : Hid (Cur (u63.setCell ⟨F, 4, none⟩ (.int .i64 y4)) g (.slice (some ⟨b, off, none⟩) n cap) 8 .nilIface) := hide (hc2.kept (grown_cell u63 F 4 _) HNE.out)
  have HO3 := hide (HO2.out.trans (only_cell (g := g) 4 (.int .i64 y4)))
  clear T1 hc2 hg2 HC HF HO HF2 HO2
  go_wp2_with fail
  generalize hV : u63.setCell ⟨F, 4, none⟩ (.int .i64 y4) = V63 at *
  clear hV f0 f1 f2 f3 f4 f5 f6 f7 f8 f9 f10 ff
  have HC := HC3
  have HF := HF3
  have HO := HO3
  clear HC3 HF3 HO3
  have t1 := tk1 g 8 n cap b off zs V63 HC.out (by omega) (by omega) hcap HN.out (arr_only HA.out HO.out HAN.out) hbg
  rw [show tnum ((zs.drop 8).take 1) = y5 from HY5.out.symm] at t1
  have T1 := hide t1
  clear t1
  refine T1.out.mono ?_
  rintro e u64 ⟨rfl, hc2, hg2⟩
  have HF2 := hide (HF.out.only (Only.of_some hg2) HNF.out)
  have HO2 := hide (HO.out.trans (only_g (F := F) hg2))
  obtain ⟨f0, f1, f2, f3, f4, f5, f6, f7, f8, f9, f10, ff⟩ := HF2.out.cells
  have HF3 := hide (HF2.out.set5 y5)
  have HC3 : Hid (Cur (u64.setCell ⟨F, 5, none⟩ (.int .i64 y5)) g (.slice (some ⟨b, off, none⟩) n cap) 9 .nilIface) := hide (hc2.kept (grown_cell u64 F 5 _) HNE.out)
  have HO3 := hide (HO2.out.trans (only_cell (g := g) 5 (.int .i64 y5)))
  clear T1 hc2 hg2 HC HF HO HF2 HO2
  go_wp2_with fail
  generalize hV : u64.setCell ⟨F, 5, none⟩ (.int .i64 y5) = V64 at *
  clear hV f0 f1 f2 f3 f4 f5 f6 f7 f8 f9 f10 ff
  have HC := HC3
  have HF := HF3
  have HO := HO3
  clear HC3 HF3 HO3
  have t1 := tk1 g 9 n cap b off zs V64 HC.out (by omega) (by omega) hcap HN.out (arr_only HA.out HO.out HAN.out) hbg
  rw [show tnum ((zs.drop 9).take 1) = y6 from HY6.out.symm] at t1
  have T1 := hide t1
  clear t1
  refine T1.out.mono ?_
  rintro e u65 ⟨rfl, hc2, hg2⟩
  have HF2 := hide (HF.out.only (Only.of_some hg2) HNF.out)
  have HO2 := hide (HO.out.trans (only_g (F := F) hg2))
  obtain ⟨f0, f1, f2, f3, f4, f5, f6, f7, f8, f9, f10, ff⟩ := HF2.out.cells
  have HF3 := hide (HF2.out.set6 y6)
  have HC3 : Hid (Cur (u65.setCell ⟨F, 6, none⟩ (.int .i64 y6)) g (.slice (some ⟨b, off, none⟩) n cap) 10 .nilIface) := hide (hc2.kept (grown_cell u65 F 6 _) HNE.out)
  have HO3 := hide (HO2.out.trans (only_cell (g := g) 6 (.int .i64 y6)))
  clear T1 hc2 hg2 HC HF HO HF2 HO2
  go_wp2_with fail
  generalize hV : u65.setCell ⟨F, 6, none⟩ (.int .i64 y6) = V65 at *
  clear hV f0 f1 f2 f3 f4 f5 f6 f7 f8 f9 f10 ff
  have HC := HC3
  have HF := HF3
  have HO := HO3
  clear HC3 HF3 HO3
  have T1 := hide (ps2 g 10 n cap b off V65 HC.out (by omega) (by omega) hcap)
  refine T1.out.mono ?_
  rintro e V66 ⟨rfl, hc2, hg2⟩
  have HF2 := hide (HF.out.only (Only.of_some hg2) HNF.out)
  have HO2 := hide (HO.out.trans (only_g (F := F) hg2))
  have HC2 : Hid (Cur V66 g (.slice (some ⟨b, off, none⟩) n cap) 12 .nilIface) := hide hc2
  clear T1 hc2 hg2 HC HF HO
  have HC := HC2
  have HF := HF2
  have HO := HO2
  clear HC2 HF2 HO2
  go_wp2_with fail
  have t1 := tk4 g 12 n cap b off zs V66 HC.out (by omega) (by omega) hcap HN.out (arr_only HA.out HO.out HAN.out) hbg
  rw [show tnum ((zs.drop 12).take 4) = y7 from HY7.out.symm] at t1
  have T1 := hide t1
  clear t1
  refine T1.out.mono ?_
  rintro e u67 ⟨rfl, hc2, hg2⟩
  have HF2 := hide (HF.out.only (Only.of_some hg2) HNF.out)
  have HO2 := hide (HO.out.trans (only_g (F := F) hg2))
  obtain ⟨f0, f1, f2, f3, f4, f5, f6, f7, f8, f9, f10, ff⟩ := HF2.out.cells
  have HF3 := hide (HF2.out.set7 y7)
  have HC3 : Hid (Cur (u67.setCell ⟨F, 7, none⟩ (.int .i64 y7)) g (.slice (some ⟨b, off, none⟩) n cap) 16 .nilIface) := hide (hc2.kept (grown_cell u67 F 7 _) HNE.out)
  have HO3 := hide (HO2.out.trans (only_cell (g := g) 7 (.int .i64 y7)))
  clear T1 hc2 hg2 HC HF HO HF2 HO2
  go_wp2_with fail
  generalize hV : u67.setCell ⟨F, 7, none⟩ (.int .i64 y7) = V67 at *
  clear hV f0 f1 f2 f3 f4 f5 f6 f7 f8 f9 f10 ff
  have HC := HC3
  have HF := HF3
  have HO := HO3
  clear HC3 HF3 HO3
  have t1 := tk4 g 16 n cap b off zs V67 HC.out (by omega) (by omega) hcap HN.out (arr_only HA.out HO.out HAN.out) hbg
  rw [show tnum ((zs.drop 16).take 4) = y8 from HY8.out.symm] at t1
  have T1 := hide t1
  clear t1
  refine T1.out.mono ?_
  rintro e u68 ⟨rfl, hc2, hg2⟩
  have HF2 := hide (HF.out.only (Only.of_some hg2) HNF.out)
  have HO2 := hide (HO.out.trans (only_g (F := F) hg2))
  obtain ⟨f0, f1, f2, f3, f4, f5, f6, f7, f8, f9, f10, ff⟩ := HF2.out.cells
  have HF3 := hide (HF2.out.set8 y8)
  have HC3 : Hid (Cur (u68.setCell ⟨F, 8, none⟩ (.int .i64 y8)) g (.slice (some ⟨b, off, none⟩) n cap) 20 .nilIface) := hide (hc2.kept (grown_cell u68 F 8 _) HNE.out)
  have HO3 := hide (HO2.out.trans (only_cell (g := g) 8 (.int .i64 y8)))
  clear T1 hc2 hg2 HC HF HO HF2 HO2
  go_wp2_with fail
  generalize hV : u68.setCell ⟨F, 8, none⟩ (.int .i64 y8) = V68 at *
  clear hV f0 f1 f2 f3 f4 f5 f6 f7 f8 f9 f10 ff
  have HC := HC3
  have HF := HF3
  have HO := HO3
  clear HC3 HF3 HO3
  obtain ⟨f0, f1, f2, f3, f4, f5, f6, f7, f8, f9, f10, ff⟩ := HF.out.cells
  refine (hsize_walk F y0 V68 f0).mono ?_
  rintro e v ⟨rfl, hv⟩
  rw [hv]
  clear hv f0 f1 f2 f3 f4 f5 f6 f7 f8 f9 f10 ff
  have hks := HKO.out
  go_wp2_with fail
  have tb := takeBytes_any g 20 n cap b off ko zs V68 HC.out (by omega) HKN.out hcap HN.out (arr_only HA.out HO.out HAN.out) hbg
  have TB := hide tb
  clear tb hks
  refine TB.out.mono ?_
  rintro e U ⟨vv, rfl, hO, hc2, hg2⟩
  have hO' := hO.mono HO.out.size
  clear hO
  have HOW := hide hO'
  clear hO'
  obtain ⟨ao, co, rfl, _⟩ := own_slice HOW.out
  have HLO : Hid (((zs.drop 20).take ko).length = ko) := hide (by rw [List.length_take, List.length_drop, HN.out]; have := HKN.out; omega)
  rw [HLO.out] at HOW ⊢
  have HF2 := hide (HF.out.only (Only.of_some hg2) HNF.out)
  have HO2 := hide (HO.out.trans (only_g (F := F) hg2))
  obtain ⟨f0, f1, f2, f3, f4, f5, f6, f7, f8, f9, f10, ff⟩ := HF2.out.cells
  have HF3 := hide (HF2.out.set9 (.slice ao ko co))
  have HC3 := hide (hc2.kept (grown_cell U F 9 (.slice ao ko co)) HNE.out)
  have HO3 := hide (HO2.out.trans (only_cell (g := g) 9 (.slice ao ko co)))
  have HOW3 := hide (HOW.out.setBelow (a := ⟨F, 9, none⟩) hFl (.slice ao ko co))
  clear TB hc2 hg2 HC HF HO HF2 HO2 HOW
  go_wp2_with fail
  generalize hV : U.setCell ⟨F, 9, none⟩ (.slice ao ko co) = V at *
  clear hV f0 f1 f2 f3 f4 f5 f6 f7 f8 f9 f10 ff
  refine (passed_walk g (20 + ko) n cap b off .nilIface V HC3.out (by have := HKN.out; omega) (by omega)).mono ?_
  rintro e v ⟨rfl, mp, rfl⟩
  have hk := checksum_walk (some ⟨b, off, none⟩) (20 + ko) cap (zs.take (20 + ko)) (V.drewN mp) (by rw [List.length_take, HN.out]; have := HKN.out; omega) (show Arr (V.drewN mp) _ _ from (arr_only HA.out HO3.out HAN.out).take (20 + ko)) (by have := HKN.out; omega)
  have HLT : Hid ((zs.take (20 + ko)).length = 20 + ko) := hide (by rw [List.length_take, HN.out]; have := HKN.out; omega)
  have CK : Hid (Calls Tryd.prog 30 #[.slice (some ⟨b, off, none⟩) (20 + ko) cap] (V.drewN mp) fun e w' => e = .returned (.int .i64 (csum (zs.take (20 + ko)))) ∧ Below (V.drewN mp).heap.size (V.drewN mp) w') := hide (hk.mono (by rintro e w' ⟨rfl, hb, _⟩; refine ⟨?_, hb⟩; unfold csum; rw [HLT.out]))
  clear hk
  generalize csum (zs.take (20 + ko)) = cs at *
  go_wp2_with fail
  refine CK.out.mono ?_
  rintro e X ⟨rfl, hbk⟩
  have hbX : Below V.heap.size V X := ⟨hbk.os, hbk.tape, hbk.output, hbk.size, hbk.block⟩
  have HF4 := hide (HF3.out.only (Only.of_below (S := [g]) hbX) HNF.out)
  have HO4 := hide (HO3.out.trans (Only.of_below hbX))
  have HC4 := hide (HC3.out.below hbX HC3.out.lt)
  have HOW4 := hide (HOW3.out.next hbX)
  clear HC3 HF3 HO3 HOW3 hbk hbX CK
  have hcs := HE.out
  go_wp2_with fail
  have cd := demand_if g _ _ 3 E X HC4.out
  rw [HEV.out] at cd
  have CD := hide cd
  clear cd
  refine CD.out.mono ?_
  rintro e Z ⟨rfl, hc5, hg5⟩
  have HC5 := hide hc5
  have HF5 := hide (HF4.out.only (Only.of_some hg5) HNF.out)
  have HO5 := hide (HO4.out.trans (only_g (F := F) hg5))
  have HOW5 := hide (HOW4.out.only (Only.of_some hg5) (fun b hb => by have := HOW4.out.ge b hb; simp; omega))
  clear hc5 hg5 HC4 HF4 HO4 HOW4 hcs CD
  go_wp2_with fail
  go_end0
  exact ⟨ao, co, rfl, HC5.out, HF5.out, HOW5.out, HO5.out⟩
end Go.Proofs.YtakoagfeiolkjaaDoor
