/-
Contracts of functions of this seat.
-/
import Derived.Test.YtakoagfeiolkjaaDoorRows
import Derived.WalkKit
import Derived.ProofKit
import Derived.OpenShut
import Derived.Test.YtakoagfeiolkjaaDoorIth
namespace Go.Proofs.YtakoagfeiolkjaaDoor
open Go.ChangeShapes Go.WideShapes Go.ChangeAt Go.RowKit
set_option linter.unusedVariables false
set_option maxRecDepth 100000
set_option maxHeartbeats 8000000 in
theorem takeHead_short (g F n cap : Nat) (a : Option Addr) (w : World) (hc : Cur w g (.slice a n cap) 0 .nilIface) (hf : FR w F 0 0 0 0 0 0 0 0 0 (.slice none 0 0) (.slice none 0 0)) (hm : n ≤ 1048576) (h20 : n < 20) (hFg : F ≠ g) :
    Calls Tryd.prog 24 #[.pointer (some ⟨F, 0, none⟩), .pointer (some ⟨g, 0, none⟩)] w fun e w' => ∃ (K p : Nat), e = .returned (.tuple #[]) ∧ Cur w' g (.slice a n cap) p (wErr 2) ∧ FR w' F 0 0 0 0 0 0 0 0 0 (.slice (some ⟨K, 0, none⟩) 0 0) (.slice none 0 0) ∧ Only [g, F] w w' ∧ p ≤ n := by
  have HNE : Hid (some g ≠ some F) := hide (by intro e; cases e; exact hFg rfl)
  have HNF : Hid (F ∉ [g]) := hide (by simp [hFg])
  have h20' : decide ((20 : Int) ≤ (n : Int)) = false := decide_eq_false (by omega)
  have CL := hide (left0_walk g n cap a .nilIface w hc (by omega))
  have HC0 := hide hc
  have HF0 := hide hf
  clear hc hf
  go_enter Tryd.func24, Tryd.ntmps24
  go_wp2_with fail
  refine CL.out.mono ?_
  rintro e w1 ⟨rfl, m, rfl⟩
  have HC := hide (Cur.drewN (w := w) HC0.out m)
  have HF := hide (FR.drewN (w := w) HF0.out m)
  have HO : Hid (Only [g, F] w (w.drewN m)) := hide (only_drewN w m)
  clear HC0 HF0 CL
  generalize w.drewN m = W0 at *
  go_wp2_with fail
  refine (demand_no g 0 _ 2 W0 HC.out).mono ?_
  rintro e w2 ⟨rfl, hc2, hg2⟩
  have HF2 := hide (HF.out.only (Only.of_some hg2) HNF.out)
  have HO2 := hide (HO.out.trans (only_g (F := F) hg2))
  have HC2 := hide hc2
  clear hc2 hg2 HC HF HO
  have HC := HC2
  have HF := HF2
  have HO := HO2
  clear HC2 HF2 HO2
  go_wp2_with fail
  refine (take_err g _ n cap a 2 1 w2 HC.out (by omega) (by omega) (by omega) (by omega)).mono ?_
  rintro e u50 ⟨rfl, m50, rfl⟩
  have HF2 := hide (FR.drewN (w := w2) HF.out m50)
  have HO2 := hide (HO.out.trans (only_drewN w2 m50))
  have HC2 := hide (Cur.drewN (w := w2) HC.out m50)
  generalize w2.drewN m50 = U50 at *
  obtain ⟨f0, f1, f2, f3, f4, f5, f6, f7, f8, f9, f10, ff⟩ := HF2.out.cells
  have HF3 := hide (HF2.out.set0 0)
  have HC3 := hide (HC2.out.kept (grown_cell U50 F 0 (.int .i64 0)) HNE.out)
  have HO3 := hide (HO2.out.trans (only_cell (g := g) 0 (.int .i64 0)))
  clear HC HF HO HF2 HO2 HC2
  go_wp2_with fail
  generalize hV : U50.setCell ⟨F, 0, none⟩ (.int .i64 0) = V50 at *
  clear hV f0 f1 f2 f3 f4 f5 f6 f7 f8 f9 f10 ff
  have HC := HC3
  have HF := HF3
  have HO := HO3
  clear HC3 HF3 HO3
  obtain ⟨f0, f1, f2, f3, f4, f5, f6, f7, f8, f9, f10, ff⟩ := HF.out.cells
  refine (version_walk F 0 V50 f0).mono ?_
  rintro e v ⟨rfl, hv⟩
  rw [hv]
  clear hv f0 f1 f2 f3 f4 f5 f6 f7 f8 f9 f10 ff
  go_wp2_with fail
  refine (demand_err g _ _ 2 _ _ V50 HC.out).mono ?_
  rintro e v ⟨rfl, hv⟩
  rw [hv]
  clear hv
  go_wp2_with fail
  have HC2 := hide (Cur.drew (w := V50) HC.out)
  have HF2 := hide (FR.drew (w := V50) HF.out)
  have HO2 := hide (HO.out.trans (only_drew V50))
  refine region_tail 14 (by kernel_rfl) (by kernel_rfl) ?_
  clear HC HF HO
  generalize V50.drew = VQ at *
  have HC := HC2
  have HF := HF2
  have HO := HO2
  clear HC2 HF2 HO2
  obtain ⟨f0, f1, f2, f3, f4, f5, f6, f7, f8, f9, f10, ff⟩ := HF.out.cells
  obtain ⟨c0, c1, c2, cf⟩ := HC.out.cells
  simp only [List.take_succ_cons, List.take_zero, List.drop_succ_cons, List.drop_zero]
  repeat (first | go_big_quiet_skip | (go_big_quiet_want; go_big_quiet_op; first | go_big_quiet_on | (apply Exists.intro; refine ⟨hsize_walk F 0 VQ f0, ?_⟩; go_big_quiet_on)))
  refine wpQuiet_nil ?_
  clear c0 c1 c2 cf f0 f1 f2 f3 f4 f5 f6 f7 f8 f9 f10 ff
  go_wp2_with fail
  refine (demand_err g _ _ 2 _ _ VQ HC.out).mono ?_
  rintro e v ⟨rfl, hv⟩
  rw [hv]
  clear hv
  go_wp2_with fail
  refine (take_err g _ n cap a 2 1 VQ HC.out (by omega) (by omega) (by omega) (by omega)).mono ?_
  rintro e u51 ⟨rfl, m51, rfl⟩
  have HF2 := hide (FR.drewN (w := VQ) HF.out m51)
  have HO2 := hide (HO.out.trans (only_drewN VQ m51))
  have HC2 := hide (Cur.drewN (w := VQ) HC.out m51)
  generalize VQ.drewN m51 = U51 at *
  obtain ⟨f0, f1, f2, f3, f4, f5, f6, f7, f8, f9, f10, ff⟩ := HF2.out.cells
  have HF3 := hide (HF2.out.set1 0)
  have HC3 := hide (HC2.out.kept (grown_cell U51 F 1 (.int .i64 0)) HNE.out)
  have HO3 := hide (HO2.out.trans (only_cell (g := g) 1 (.int .i64 0)))
  clear HC HF HO HF2 HO2 HC2
  go_wp2_with fail
  generalize hV : U51.setCell ⟨F, 1, none⟩ (.int .i64 0) = V51 at *
  clear hV f0 f1 f2 f3 f4 f5 f6 f7 f8 f9 f10 ff
  have HC := HC3
  have HF := HF3
  have HO := HO3
  clear HC3 HF3 HO3
  refine (take_err g _ n cap a 2 2 V51 HC.out (by omega) (by omega) (by omega) (by omega)).mono ?_
  rintro e u52 ⟨rfl, m52, rfl⟩
  have HF2 := hide (FR.drewN (w := V51) HF.out m52)
  have HO2 := hide (HO.out.trans (only_drewN V51 m52))
  have HC2 := hide (Cur.drewN (w := V51) HC.out m52)
  generalize V51.drewN m52 = U52 at *
  obtain ⟨f0, f1, f2, f3, f4, f5, f6, f7, f8, f9, f10, ff⟩ := HF2.out.cells
  have HF3 := hide (HF2.out.set2 0)
  have HC3 := hide (HC2.out.kept (grown_cell U52 F 2 (.int .i64 0)) HNE.out)
  have HO3 := hide (HO2.out.trans (only_cell (g := g) 2 (.int .i64 0)))
  clear HC HF HO HF2 HO2 HC2
  go_wp2_with fail
  generalize hV : U52.setCell ⟨F, 2, none⟩ (.int .i64 0) = V52 at *
  clear hV f0 f1 f2 f3 f4 f5 f6 f7 f8 f9 f10 ff
  have HC := HC3
  have HF := HF3
  have HO := HO3
  clear HC3 HF3 HO3
  refine (take_err g _ n cap a 2 2 V52 HC.out (by omega) (by omega) (by omega) (by omega)).mono ?_
  rintro e u53 ⟨rfl, m53, rfl⟩
  have HF2 := hide (FR.drewN (w := V52) HF.out m53)
  have HO2 := hide (HO.out.trans (only_drewN V52 m53))
  have HC2 := hide (Cur.drewN (w := V52) HC.out m53)
  generalize V52.drewN m53 = U53 at *
  obtain ⟨f0, f1, f2, f3, f4, f5, f6, f7, f8, f9, f10, ff⟩ := HF2.out.cells
  have HF3 := hide (HF2.out.set3 0)
  have HC3 := hide (HC2.out.kept (grown_cell U53 F 3 (.int .i64 0)) HNE.out)
  have HO3 := hide (HO2.out.trans (only_cell (g := g) 3 (.int .i64 0)))
  clear HC HF HO HF2 HO2 HC2
  go_wp2_with fail
  generalize hV : U53.setCell ⟨F, 3, none⟩ (.int .i64 0) = V53 at *
  clear hV f0 f1 f2 f3 f4 f5 f6 f7 f8 f9 f10 ff
  have HC := HC3
  have HF := HF3
  have HO := HO3
  clear HC3 HF3 HO3
  refine (take_err g _ n cap a 2 2 V53 HC.out (by omega) (by omega) (by omega) (by omega)).mono ?_
  rintro e u54 ⟨rfl, m54, rfl⟩
  have HF2 := hide (FR.drewN (w := V53) HF.out m54)
  have HO2 := hide (HO.out.trans (only_drewN V53 m54))
  have HC2 := hide (Cur.drewN (w := V53) HC.out m54)
  generalize V53.drewN m54 = U54 at *
  obtain ⟨f0, f1, f2, f3, f4, f5, f6, f7, f8, f9, f10, ff⟩ := HF2.out.cells
  have HF3 := hide (HF2.out.set4 0)
  have HC3 := hide (HC2.out.kept (grown_cell U54 F 4 (.int .i64 0)) HNE.out)
  have HO3 := hide (HO2.out.trans (only_cell (g := g) 4 (.int .i64 0)))
  clear HC HF HO HF2 HO2 HC2
  go_wp2_with fail
  generalize hV : U54.setCell ⟨F, 4, none⟩ (.int .i64 0) = V54 at *
  clear hV f0 f1 f2 f3 f4 f5 f6 f7 f8 f9 f10 ff
  have HC := HC3
  have HF := HF3
  have HO := HO3
  clear HC3 HF3 HO3
  refine (take_err g _ n cap a 2 1 V54 HC.out (by omega) (by omega) (by omega) (by omega)).mono ?_
  rintro e u55 ⟨rfl, m55, rfl⟩
  have HF2 := hide (FR.drewN (w := V54) HF.out m55)
  have HO2 := hide (HO.out.trans (only_drewN V54 m55))
  have HC2 := hide (Cur.drewN (w := V54) HC.out m55)
  generalize V54.drewN m55 = U55 at *
  obtain ⟨f0, f1, f2, f3, f4, f5, f6, f7, f8, f9, f10, ff⟩ := HF2.out.cells
  have HF3 := hide (HF2.out.set5 0)
  have HC3 := hide (HC2.out.kept (grown_cell U55 F 5 (.int .i64 0)) HNE.out)
  have HO3 := hide (HO2.out.trans (only_cell (g := g) 5 (.int .i64 0)))
  clear HC HF HO HF2 HO2 HC2
  go_wp2_with fail
  generalize hV : U55.setCell ⟨F, 5, none⟩ (.int .i64 0) = V55 at *
  clear hV f0 f1 f2 f3 f4 f5 f6 f7 f8 f9 f10 ff
  have HC := HC3
  have HF := HF3
  have HO := HO3
  clear HC3 HF3 HO3
  refine (take_err g _ n cap a 2 1 V55 HC.out (by omega) (by omega) (by omega) (by omega)).mono ?_
  rintro e u56 ⟨rfl, m56, rfl⟩
  have HF2 := hide (FR.drewN (w := V55) HF.out m56)
  have HO2 := hide (HO.out.trans (only_drewN V55 m56))
  have HC2 := hide (Cur.drewN (w := V55) HC.out m56)
  generalize V55.drewN m56 = U56 at *
  obtain ⟨f0, f1, f2, f3, f4, f5, f6, f7, f8, f9, f10, ff⟩ := HF2.out.cells
  have HF3 := hide (HF2.out.set6 0)
  have HC3 := hide (HC2.out.kept (grown_cell U56 F 6 (.int .i64 0)) HNE.out)
  have HO3 := hide (HO2.out.trans (only_cell (g := g) 6 (.int .i64 0)))
  clear HC HF HO HF2 HO2 HC2
  go_wp2_with fail
  generalize hV : U56.setCell ⟨F, 6, none⟩ (.int .i64 0) = V56 at *
  clear hV f0 f1 f2 f3 f4 f5 f6 f7 f8 f9 f10 ff
  have HC := HC3
  have HF := HF3
  have HO := HO3
  clear HC3 HF3 HO3
  refine (pass_err g _ n cap a 2 2 V56 HC.out (by omega) (by omega) (by omega) (by omega)).mono ?_
  rintro e u57 ⟨rfl, m57, rfl⟩
  have HF2 := hide (FR.drewN (w := V56) HF.out m57)
  have HO2 := hide (HO.out.trans (only_drewN V56 m57))
  have HC2 := hide (Cur.drewN (w := V56) HC.out m57)
  generalize V56.drewN m57 = V57 at *
  clear HC HF HO
  have HC := HC2
  have HF := HF2
  have HO := HO2
  clear HC2 HF2 HO2
  go_wp2_with fail
  refine (take_err g _ n cap a 2 4 V57 HC.out (by omega) (by omega) (by omega) (by omega)).mono ?_
  rintro e u58 ⟨rfl, m58, rfl⟩
  have HF2 := hide (FR.drewN (w := V57) HF.out m58)
  have HO2 := hide (HO.out.trans (only_drewN V57 m58))
  have HC2 := hide (Cur.drewN (w := V57) HC.out m58)
  generalize V57.drewN m58 = U58 at *
  obtain ⟨f0, f1, f2, f3, f4, f5, f6, f7, f8, f9, f10, ff⟩ := HF2.out.cells
  have HF3 := hide (HF2.out.set7 0)
  have HC3 := hide (HC2.out.kept (grown_cell U58 F 7 (.int .i64 0)) HNE.out)
  have HO3 := hide (HO2.out.trans (only_cell (g := g) 7 (.int .i64 0)))
  clear HC HF HO HF2 HO2 HC2
  go_wp2_with fail
  generalize hV : U58.setCell ⟨F, 7, none⟩ (.int .i64 0) = V58 at *
  clear hV f0 f1 f2 f3 f4 f5 f6 f7 f8 f9 f10 ff
  have HC := HC3
  have HF := HF3
  have HO := HO3
  clear HC3 HF3 HO3
  refine (take_err g _ n cap a 2 4 V58 HC.out (by omega) (by omega) (by omega) (by omega)).mono ?_
  rintro e u59 ⟨rfl, m59, rfl⟩
  have HF2 := hide (FR.drewN (w := V58) HF.out m59)
  have HO2 := hide (HO.out.trans (only_drewN V58 m59))
  have HC2 := hide (Cur.drewN (w := V58) HC.out m59)
  generalize V58.drewN m59 = U59 at *
  obtain ⟨f0, f1, f2, f3, f4, f5, f6, f7, f8, f9, f10, ff⟩ := HF2.out.cells
  have HF3 := hide (HF2.out.set8 0)
  have HC3 := hide (HC2.out.kept (grown_cell U59 F 8 (.int .i64 0)) HNE.out)
  have HO3 := hide (HO2.out.trans (only_cell (g := g) 8 (.int .i64 0)))
  clear HC HF HO HF2 HO2 HC2
  go_wp2_with fail
  generalize hV : U59.setCell ⟨F, 8, none⟩ (.int .i64 0) = V59 at *
  clear hV f0 f1 f2 f3 f4 f5 f6 f7 f8 f9 f10 ff
  have HC := HC3
  have HF := HF3
  have HO := HO3
  clear HC3 HF3 HO3
  obtain ⟨f0, f1, f2, f3, f4, f5, f6, f7, f8, f9, f10, ff⟩ := HF.out.cells
  refine (hsize_walk F 0 V59 f0).mono ?_
  rintro e v ⟨rfl, hv⟩
  rw [hv]
  clear hv f0 f1 f2 f3 f4 f5 f6 f7 f8 f9 f10 ff
  go_wp2_with fail
  refine (takeBytes_err g _ n cap a 2 _ V59 HC.out (by omega) (by omega) (by omega) (by omega)).mono ?_
  rintro e U ⟨rfl, hbU⟩
  have HF2 := hide (HF.out.only (Only.of_below (S := [g]) hbU) HNF.out)
  have HO2 := hide (HO.out.trans (Only.of_below hbU))
  have HC2 := hide (HC.out.below hbU HC.out.lt)
  clear HC HF HO hbU
  generalize V59.heap.size = K at *
  obtain ⟨f0, f1, f2, f3, f4, f5, f6, f7, f8, f9, f10, ff⟩ := HF2.out.cells
  have HF3 := hide (HF2.out.set9 (.slice (some ⟨K, 0, none⟩) 0 0))
  have HC3 := hide (HC2.out.kept (grown_cell U F 9 (.slice (some ⟨K, 0, none⟩) 0 0)) HNE.out)
  have HO3 := hide (HO2.out.trans (only_cell (g := g) 9 (.slice (some ⟨K, 0, none⟩) 0 0)))
  clear HF2 HO2 HC2
  go_wp2_with fail
  generalize hV : U.setCell ⟨F, 9, none⟩ (.slice (some ⟨K, 0, none⟩) 0 0) = V at *
  clear hV f0 f1 f2 f3 f4 f5 f6 f7 f8 f9 f10 ff
  refine (passed_zero g n cap a (wErr 2) V HC3.out).mono ?_
  rintro e v ⟨⟨a2, rfl⟩, mp, rfl⟩
  go_wp2_with fail
  refine (checksum_walk a2 0 cap [] _ rfl ⟨by simp, fun j hj => by simp at hj⟩ (by omega)).mono ?_
  rintro e X ⟨rfl, hbk, _⟩
  have hbX : Below V.heap.size V X := ⟨hbk.os, hbk.tape, hbk.output, hbk.size, hbk.block⟩
  have HF4 := hide (HF3.out.only (Only.of_below (S := [g]) hbX) HNF.out)
  have HO4 := hide (HO3.out.trans (Only.of_below hbX))
  have HC4 := hide (HC3.out.below hbX HC3.out.lt)
  clear HC3 HF3 HO3 hbk hbX
  go_wp2_with fail
  refine (demand_err g _ _ 2 _ _ X HC4.out).mono ?_
  rintro e v ⟨rfl, hv⟩
  rw [hv]
  clear hv
  go_wp2_with fail
  go_end0
  exact ⟨_, 0, rfl, HC4.out, HF4.out, HO4.out, by omega⟩
end Go.Proofs.YtakoagfeiolkjaaDoor
