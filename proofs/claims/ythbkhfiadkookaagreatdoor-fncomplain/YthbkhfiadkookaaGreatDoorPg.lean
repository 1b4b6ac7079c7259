/-
Contracts of functions of this seat.
-/
import Derived.Test.YthbkhfiadkookaaGreatDoorRows
import Derived.WalkKit
import Derived.ProofKit
import Derived.OpenShut
import Derived.Deep.QuietTactic
import Derived.Below
import Derived.Laws.Externs
import Derived.OwnWalk
import Derived.BigQuiet
import Derived.ArgAppend
import Derived.RegionTactic
import Derived.ChangeAlike
import Derived.Laws.IdiomStrings
import Derived.Laws.BytesArg
import Derived.Deep.RegionHeld3
import Derived.Deep.CutRange
import Derived.LaidEql
import Derived.Stop.Asserts
import Derived.RowKitTokens
import Derived.Laws.CopyOwn
import Derived.Laws.OwnMore
import Derived.StillTailTactics
import Derived.Lib.QuietBelow
import Derived.Test.YthbkhfiadkookaaGreatDoorPf
namespace Go.Proofs.YthbkhfiadkookaaGreatDoor
open Go.ChangeShapes Go.WideShapes Go.ChangeAt Go.RowKit
set_option linter.unusedVariables false
set_option maxRecDepth 100000
set_option maxRecDepth 100000
set_option maxHeartbeats 8000000 in
theorem takeHead_shortq (g F n cap : Nat) (a : Option Addr) (w : World) (hc : Cur w g (.slice a n cap) 0 .nilIface) (hf : FRq w F 0 0 0 0 0 0 0 0 0 (.slice none 0 0) (.slice none 0 0)) (hm : n ≤ 1048576) (h20 : n < 20) (hFg : F ≠ g) :
    Calls Tryz.prog 50 #[.pointer (some ⟨F, 0, none⟩), .pointer (some ⟨g, 0, none⟩)] w fun e w' => ∃ (K p : Nat), e = .returned (.tuple #[]) ∧ Cur w' g (.slice a n cap) p (wErr 2) ∧ FRq w' F 0 0 0 0 0 0 0 0 0 (.slice (some ⟨K, 0, none⟩) 0 0) (.slice none 0 0) ∧ Only [g, F] w w' ∧ p ≤ n := by
  have HNE : Hid (some g ≠ some F) := hide (by intro e; cases e; exact hFg rfl)
  have HNF : Hid (F ∉ [g]) := hide (by simp [hFg])
  have h20' : decide ((20 : Int) ≤ (n : Int)) = false := decide_eq_false (by omega)
  have CL := hide (left0_walkq g n cap a .nilIface w hc (by omega))
  have HC0 := hide hc
  have HF0 := hide hf
  clear hc hf
  go_enter Tryz.func50, Tryz.ntmps50
  go_wp2_with fail
  refine CL.out.mono ?_
  rintro e w1 ⟨rfl, m, rfl⟩
  have HC := hide (Cur.drewN (w := w) HC0.out m)
  have HF := hide (FRq.drewN (w := w) HF0.out m)
  have HO : Hid (Only [g, F] w (w.drewN m)) := hide (only_drewNq w m)
  clear HC0 HF0 CL
  generalize w.drewN m = W0 at *
  go_wp2_with fail
  refine (demand_no g 0 _ 2 W0 HC.out).mono ?_
  rintro e w2 ⟨rfl, hc2, hg2⟩
  have HF2 := hide (HF.out.only (Only.of_some hg2) HNF.out)
  have HO2 := hide (HO.out.trans (only_gq (F := F) hg2))
  have HC2 := hide hc2
  clear hc2 hg2 HC HF HO
  have HC := HC2
  have HF := HF2
  have HO := HO2
  clear HC2 HF2 HO2
  go_wp2_with fail
  refine (take_err g _ n cap a 2 1 w2 HC.out (by omega) (by omega) (by omega) (by omega)).mono ?_
  rintro e u50 ⟨rfl, m50, rfl⟩
  have HF2 := hide (FRq.drewN (w := w2) HF.out m50)
  have HO2 := hide (HO.out.trans (only_drewNq w2 m50))
  have HC2 := hide (Cur.drewN (w := w2) HC.out m50)
  generalize w2.drewN m50 = U50 at *
  obtain ⟨f0, f1, f2, f3, f4, f5, f6, f7, f8, f9, f10, ff⟩ := HF2.out.cells
  have HF3 := hide (HF2.out.set0 0)
  have HC3 := hide (HC2.out.kept (grown_cell U50 F 0 (.int .i64 0)) HNE.out)
  have HO3 := hide (HO2.out.trans (only_cellq (g := g) 0 (.int .i64 0)))
  clear HC HF HO HF2 HO2 HC2
  go_wp2_with fail
  generalize hV : U50.setCell ⟨F, 0, none⟩ (.int .i64 0) = V50 at *
  clear hV f0 f1 f2 f3 f4 f5 f6 f7 f8 f9 f10 ff
  have HC := HC3
  have HF := HF3
  have HO := HO3
  clear HC3 HF3 HO3
  obtain ⟨f0, f1, f2, f3, f4, f5, f6, f7, f8, f9, f10, ff⟩ := HF.out.cells
  refine (version_walk F 0 V50 f0).mono ?_
  rintro e v ⟨rfl, hv⟩
  rw [hv]
  clear hv f0 f1 f2 f3 f4 f5 f6 f7 f8 f9 f10 ff
  go_wp2_with fail
  refine (demand_err g _ _ 2 _ _ V50 HC.out).mono ?_
  rintro e v ⟨rfl, hv⟩
  rw [hv]
  clear hv
  go_wp2_with fail
  have HC2 := hide (Cur.drew (w := V50) HC.out)
  have HF2 := hide (FRq.drew (w := V50) HF.out)
  have HO2 := hide (HO.out.trans (only_drewq V50))
  refine region_tail 14 (by kernel_rfl) (by kernel_rfl) ?_
  clear HC HF HO
  generalize V50.drew = VQ at *
  have HC := HC2
  have HF := HF2
  have HO := HO2
  clear HC2 HF2 HO2
  obtain ⟨f0, f1, f2, f3, f4, f5, f6, f7, f8, f9, f10, ff⟩ := HF.out.cells
  obtain ⟨c0, c1, c2, cf⟩ := HC.out.cells
  simp only [List.take_succ_cons, List.take_zero, List.drop_succ_cons, List.drop_zero]
  repeat (first | go_big_quiet_skip | (go_big_quiet_want; go_big_quiet_op; first | go_big_quiet_on | (apply Exists.intro; refine ⟨hsize_walk F 0 VQ f0, ?_⟩; go_big_quiet_on)))
  refine wpQuiet_nil ?_
  clear c0 c1 c2 cf f0 f1 f2 f3 f4 f5 f6 f7 f8 f9 f10 ff
  go_wp2_with fail
  refine (demand_err g _ _ 2 _ _ VQ HC.out).mono ?_
  rintro e v ⟨rfl, hv⟩
  rw [hv]
  clear hv
  go_wp2_with fail
  refine (take_err g _ n cap a 2 1 VQ HC.out (by omega) (by omega) (by omega) (by omega)).mono ?_
  rintro e u51 ⟨rfl, m51, rfl⟩
  have HF2 := hide (FRq.drewN (w := VQ) HF.out m51)
  have HO2 := hide (HO.out.trans (only_drewNq VQ m51))
  have HC2 := hide (Cur.drewN (w := VQ) HC.out m51)
  generalize VQ.drewN m51 = U51 at *
  obtain ⟨f0, f1, f2, f3, f4, f5, f6, f7, f8, f9, f10, ff⟩ := HF2.out.cells
  have HF3 := hide (HF2.out.set1 0)
  have HC3 := hide (HC2.out.kept (grown_cell U51 F 1 (.int .i64 0)) HNE.out)
  have HO3 := hide (HO2.out.trans (only_cellq (g := g) 1 (.int .i64 0)))
  clear HC HF HO HF2 HO2 HC2
  go_wp2_with fail
  generalize hV : U51.setCell ⟨F, 1, none⟩ (.int .i64 0) = V51 at *
  clear hV f0 f1 f2 f3 f4 f5 f6 f7 f8 f9 f10 ff
  have HC := HC3
  have HF := HF3
  have HO := HO3
  clear HC3 HF3 HO3
  refine (take_err g _ n cap a 2 2 V51 HC.out (by omega) (by omega) (by omega) (by omega)).mono ?_
  rintro e u52 ⟨rfl, m52, rfl⟩
  have HF2 := hide (FRq.drewN (w := V51) HF.out m52)
  have HO2 := hide (HO.out.trans (only_drewNq V51 m52))
  have HC2 := hide (Cur.drewN (w := V51) HC.out m52)
  generalize V51.drewN m52 = U52 at *
  obtain ⟨f0, f1, f2, f3, f4, f5, f6, f7, f8, f9, f10, ff⟩ := HF2.out.cells
  have HF3 := hide (HF2.out.set2 0)
  have HC3 := hide (HC2.out.kept (grown_cell U52 F 2 (.int .i64 0)) HNE.out)
  have HO3 := hide (HO2.out.trans (only_cellq (g := g) 2 (.int .i64 0)))
  clear HC HF HO HF2 HO2 HC2
  go_wp2_with fail
  generalize hV : U52.setCell ⟨F, 2, none⟩ (.int .i64 0) = V52 at *
  clear hV f0 f1 f2 f3 f4 f5 f6 f7 f8 f9 f10 ff
  have HC := HC3
  have HF := HF3
  have HO := HO3
  clear HC3 HF3 HO3
  refine (take_err g _ n cap a 2 2 V52 HC.out (by omega) (by omega) (by omega) (by omega)).mono ?_
  rintro e u53 ⟨rfl, m53, rfl⟩
  have HF2 := hide (FRq.drewN (w := V52) HF.out m53)
  have HO2 := hide (HO.out.trans (only_drewNq V52 m53))
  have HC2 := hide (Cur.drewN (w := V52) HC.out m53)
  generalize V52.drewN m53 = U53 at *
  obtain ⟨f0, f1, f2, f3, f4, f5, f6, f7, f8, f9, f10, ff⟩ := HF2.out.cells
  have HF3 := hide (HF2.out.set3 0)
  have HC3 := hide (HC2.out.kept (grown_cell U53 F 3 (.int .i64 0)) HNE.out)
  have HO3 := hide (HO2.out.trans (only_cellq (g := g) 3 (.int .i64 0)))
  clear HC HF HO HF2 HO2 HC2
  go_wp2_with fail
  generalize hV : U53.setCell ⟨F, 3, none⟩ (.int .i64 0) = V53 at *
  clear hV f0 f1 f2 f3 f4 f5 f6 f7 f8 f9 f10 ff
  have HC := HC3
  have HF := HF3
  have HO := HO3
  clear HC3 HF3 HO3
  refine (take_err g _ n cap a 2 2 V53 HC.out (by omega) (by omega) (by omega) (by omega)).mono ?_
  rintro e u54 ⟨rfl, m54, rfl⟩
  have HF2 := hide (FRq.drewN (w := V53) HF.out m54)
  have HO2 := hide (HO.out.trans (only_drewNq V53 m54))
  have HC2 := hide (Cur.drewN (w := V53) HC.out m54)
  generalize V53.drewN m54 = U54 at *
  obtain ⟨f0, f1, f2, f3, f4, f5, f6, f7, f8, f9, f10, ff⟩ := HF2.out.cells
  have HF3 := hide (HF2.out.set4 0)
  have HC3 := hide (HC2.out.kept (grown_cell U54 F 4 (.int .i64 0)) HNE.out)
  have HO3 := hide (HO2.out.trans (only_cellq (g := g) 4 (.int .i64 0)))
  clear HC HF HO HF2 HO2 HC2
  go_wp2_with fail
  generalize hV : U54.setCell ⟨F, 4, none⟩ (.int .i64 0) = V54 at *
  clear hV f0 f1 f2 f3 f4 f5 f6 f7 f8 f9 f10 ff
  have HC := HC3
  have HF := HF3
  have HO := HO3
  clear HC3 HF3 HO3
  refine (take_err g _ n cap a 2 1 V54 HC.out (by omega) (by omega) (by omega) (by omega)).mono ?_
  rintro e u55 ⟨rfl, m55, rfl⟩
  have HF2 := hide (FRq.drewN (w := V54) HF.out m55)
  have HO2 := hide (HO.out.trans (only_drewNq V54 m55))
  have HC2 := hide (Cur.drewN (w := V54) HC.out m55)
  generalize V54.drewN m55 = U55 at *
  obtain ⟨f0, f1, f2, f3, f4, f5, f6, f7, f8, f9, f10, ff⟩ := HF2.out.cells
  have HF3 := hide (HF2.out.set5 0)
  have HC3 := hide (HC2.out.kept (grown_cell U55 F 5 (.int .i64 0)) HNE.out)
  have HO3 := hide (HO2.out.trans (only_cellq (g := g) 5 (.int .i64 0)))
  clear HC HF HO HF2 HO2 HC2
  go_wp2_with fail
  generalize hV : U55.setCell ⟨F, 5, none⟩ (.int .i64 0) = V55 at *
  clear hV f0 f1 f2 f3 f4 f5 f6 f7 f8 f9 f10 ff
  have HC := HC3
  have HF := HF3
  have HO := HO3
  clear HC3 HF3 HO3
  refine (take_err g _ n cap a 2 1 V55 HC.out (by omega) (by omega) (by omega) (by omega)).mono ?_
  rintro e u56 ⟨rfl, m56, rfl⟩
  have HF2 := hide (FRq.drewN (w := V55) HF.out m56)
  have HO2 := hide (HO.out.trans (only_drewNq V55 m56))
  have HC2 := hide (Cur.drewN (w := V55) HC.out m56)
  generalize V55.drewN m56 = U56 at *
  obtain ⟨f0, f1, f2, f3, f4, f5, f6, f7, f8, f9, f10, ff⟩ := HF2.out.cells
  have HF3 := hide (HF2.out.set6 0)
  have HC3 := hide (HC2.out.kept (grown_cell U56 F 6 (.int .i64 0)) HNE.out)
  have HO3 := hide (HO2.out.trans (only_cellq (g := g) 6 (.int .i64 0)))
  clear HC HF HO HF2 HO2 HC2
  go_wp2_with fail
  generalize hV : U56.setCell ⟨F, 6, none⟩ (.int .i64 0) = V56 at *
  clear hV f0 f1 f2 f3 f4 f5 f6 f7 f8 f9 f10 ff
  have HC := HC3
  have HF := HF3
  have HO := HO3
  clear HC3 HF3 HO3
  refine (pass_err g _ n cap a 2 2 V56 HC.out (by omega) (by omega) (by omega) (by omega)).mono ?_
  rintro e u57 ⟨rfl, m57, rfl⟩
  have HF2 := hide (FRq.drewN (w := V56) HF.out m57)
  have HO2 := hide (HO.out.trans (only_drewNq V56 m57))
  have HC2 := hide (Cur.drewN (w := V56) HC.out m57)
  generalize V56.drewN m57 = V57 at *
  clear HC HF HO
  have HC := HC2
  have HF := HF2
  have HO := HO2
  clear HC2 HF2 HO2
  go_wp2_with fail
  refine (take_err g _ n cap a 2 4 V57 HC.out (by omega) (by omega) (by omega) (by omega)).mono ?_
  rintro e u58 ⟨rfl, m58, rfl⟩
  have HF2 := hide (FRq.drewN (w := V57) HF.out m58)
  have HO2 := hide (HO.out.trans (only_drewNq V57 m58))
  have HC2 := hide (Cur.drewN (w := V57) HC.out m58)
  generalize V57.drewN m58 = U58 at *
  obtain ⟨f0, f1, f2, f3, f4, f5, f6, f7, f8, f9, f10, ff⟩ := HF2.out.cells
  have HF3 := hide (HF2.out.set7 0)
  have HC3 := hide (HC2.out.kept (grown_cell U58 F 7 (.int .i64 0)) HNE.out)
  have HO3 := hide (HO2.out.trans (only_cellq (g := g) 7 (.int .i64 0)))
  clear HC HF HO HF2 HO2 HC2
  go_wp2_with fail
  generalize hV : U58.setCell ⟨F, 7, none⟩ (.int .i64 0) = V58 at *
  clear hV f0 f1 f2 f3 f4 f5 f6 f7 f8 f9 f10 ff
  have HC := HC3
  have HF := HF3
  have HO := HO3
  clear HC3 HF3 HO3
  refine (take_err g _ n cap a 2 4 V58 HC.out (by omega) (by omega) (by omega) (by omega)).mono ?_
  rintro e u59 ⟨rfl, m59, rfl⟩
  have HF2 := hide (FRq.drewN (w := V58) HF.out m59)
  have HO2 := hide (HO.out.trans (only_drewNq V58 m59))
  have HC2 := hide (Cur.drewN (w := V58) HC.out m59)
  generalize V58.drewN m59 = U59 at *
  obtain ⟨f0, f1, f2, f3, f4, f5, f6, f7, f8, f9, f10, ff⟩ := HF2.out.cells
  have HF3 := hide (HF2.out.set8 0)
  have HC3 := hide (HC2.out.kept (grown_cell U59 F 8 (.int .i64 0)) HNE.out)
  have HO3 := hide (HO2.out.trans (only_cellq (g := g) 8 (.int .i64 0)))
  clear HC HF HO HF2 HO2 HC2
  go_wp2_with fail
  generalize hV : U59.setCell ⟨F, 8, none⟩ (.int .i64 0) = V59 at *
  clear hV f0 f1 f2 f3 f4 f5 f6 f7 f8 f9 f10 ff
  have HC := HC3
  have HF := HF3
  have HO := HO3
  clear HC3 HF3 HO3
  obtain ⟨f0, f1, f2, f3, f4, f5, f6, f7, f8, f9, f10, ff⟩ := HF.out.cells
  refine (hsize_walk F 0 V59 f0).mono ?_
  rintro e v ⟨rfl, hv⟩
  rw [hv]
  clear hv f0 f1 f2 f3 f4 f5 f6 f7 f8 f9 f10 ff
  go_wp2_with fail
  refine (takeBytes_err g _ n cap a 2 _ V59 HC.out (by omega) (by omega) (by omega) (by omega)).mono ?_
  rintro e U ⟨rfl, hbU⟩
  have HF2 := hide (HF.out.only (Only.of_below (S := [g]) hbU) HNF.out)
  have HO2 := hide (HO.out.trans (Only.of_below hbU))
  have HC2 := hide (HC.out.below hbU HC.out.lt)
  clear HC HF HO hbU
  generalize V59.heap.size = K at *
  obtain ⟨f0, f1, f2, f3, f4, f5, f6, f7, f8, f9, f10, ff⟩ := HF2.out.cells
  have HF3 := hide (HF2.out.set9 (.slice (some ⟨K, 0, none⟩) 0 0))
  have HC3 := hide (HC2.out.kept (grown_cell U F 9 (.slice (some ⟨K, 0, none⟩) 0 0)) HNE.out)
  have HO3 := hide (HO2.out.trans (only_cellq (g := g) 9 (.slice (some ⟨K, 0, none⟩) 0 0)))
  clear HF2 HO2 HC2
  go_wp2_with fail
  generalize hV : U.setCell ⟨F, 9, none⟩ (.slice (some ⟨K, 0, none⟩) 0 0) = V at *
  clear hV f0 f1 f2 f3 f4 f5 f6 f7 f8 f9 f10 ff
  refine (passed_zeroq g n cap a (wErr 2) V HC3.out).mono ?_
  rintro e v ⟨⟨a2, rfl⟩, mp, rfl⟩
  go_wp2_with fail
  refine (checksum_walk a2 0 cap [] _ rfl ⟨by simp, fun j hj => by simp at hj⟩ (by omega)).mono ?_
  rintro e X ⟨rfl, hbk, _⟩
  have hbX : Below V.heap.size V X := ⟨hbk.os, hbk.tape, hbk.output, hbk.size, hbk.block⟩
  have HF4 := hide (HF3.out.only (Only.of_below (S := [g]) hbX) HNF.out)
  have HO4 := hide (HO3.out.trans (Only.of_below hbX))
  have HC4 := hide (HC3.out.below hbX HC3.out.lt)
  clear HC3 HF3 HO3 hbk hbX
  go_wp2_with fail
  refine (demand_err g _ _ 2 _ _ X HC4.out).mono ?_
  rintro e v ⟨rfl, hv⟩
  rw [hv]
  clear hv
  go_wp2_with fail
  go_end0
  exact ⟨_, 0, rfl, HC4.out, HF4.out, HO4.out, by omega⟩

set_option maxHeartbeats 8000000 in
theorem takeHead_versionq (g F n cap b off : Nat) (zs : List Int) (w : World) (hc : Cur w g (.slice (some ⟨b, off, none⟩) n cap) 0 .nilIface) (hf : FRq w F 0 0 0 0 0 0 0 0 0 (.slice none 0 0) (.slice none 0 0)) (hn : zs.length = n) (ha : Arr w (some ⟨b, off, none⟩) zs) (hm : n ≤ 1048576) (hcap : n ≤ cap) (h20 : 20 ≤ n) (hbg : b ≠ g) (hbF : b ≠ F) (hFg : F ≠ g) (y0 : Int) (hy0 : y0 = tnum ((zs.drop 0).take 1)) (hb0 : 0 ≤ y0) (hb1 : y0 ≤ 255) (hv : (y0 / 16 == 4) = false) :
    Calls Tryz.prog 50 #[.pointer (some ⟨F, 0, none⟩), .pointer (some ⟨g, 0, none⟩)] w fun e w' => ∃ (K p : Nat), e = .returned (.tuple #[]) ∧ Cur w' g (.slice (some ⟨b, off, none⟩) n cap) p (wErr 4) ∧ FRq w' F y0 0 0 0 0 0 0 0 0 (.slice (some ⟨K, 0, none⟩) 0 0) (.slice none 0 0) ∧ Only [g, F] w w' ∧ p ≤ n := by
  have HA := hide ha
  have HN := hide hn
  have HNE : Hid (some g ≠ some F) := hide (by intro e; cases e; exact hFg rfl)
  have HNF : Hid (F ∉ [g]) := hide (by simp [hFg])
  have HAN : Hid (∀ j, j < zs.length → ∃ b' off', (some ⟨b, off, none⟩ : Option Addr) = some ⟨b', off', none⟩ ∧ b' ∉ [g, F]) := hide (fun j hj => ⟨b, off, rfl, by simp [hbg, hbF]⟩)
  have h20' : (20 : Int) ≤ (n : Int) := by omega
  have HY0 := hide hy0
  clear ha hn hy0
  have CL := hide (left0_walkq g n cap (some ⟨b, off, none⟩) .nilIface w hc (by omega))
  have HC0 := hide hc
  have HF0 := hide hf
  clear hc hf
  go_enter Tryz.func50, Tryz.ntmps50
  go_wp2_with fail
  refine CL.out.mono ?_
  rintro e w1 ⟨rfl, m, rfl⟩
  have HC := hide (Cur.drewN (w := w) HC0.out m)
  have HF := hide (FRq.drewN (w := w) HF0.out m)
  have HO : Hid (Only [g, F] w (w.drewN m)) := hide (only_drewNq w m)
  clear HC0 HF0 CL
  generalize w.drewN m = W0 at *
  go_wp2_with fail
  refine (demand_yes g 0 _ 2 W0 HC.out).mono ?_
  rintro e v ⟨rfl, hv⟩
  rw [hv]
  clear hv
  go_wp2_with fail
  have t1 := tk1q g 0 n cap b off zs W0 HC.out (by omega) (by omega) hcap HN.out (arr_only HA.out HO.out HAN.out) hbg
  rw [show tnum ((zs.drop 0).take 1) = y0 from HY0.out.symm] at t1
  have T1 := hide t1
  clear t1
  refine T1.out.mono ?_
  rintro e u50 ⟨rfl, hc2, hg2⟩
  have HF2 := hide (HF.out.only (Only.of_some hg2) HNF.out)
  have HO2 := hide (HO.out.trans (only_gq (F := F) hg2))
  obtain ⟨f0, f1, f2, f3, f4, f5, f6, f7, f8, f9, f10, ff⟩ := HF2.out.cells
  have HF3 := hide (HF2.out.set0 y0)
  have HC3 : Hid (Cur (u50.setCell ⟨F, 0, none⟩ (.int .i64 y0)) g (.slice (some ⟨b, off, none⟩) n cap) 1 .nilIface) := hide (hc2.kept (grown_cell u50 F 0 _) HNE.out)
  have HO3 := hide (HO2.out.trans (only_cellq (g := g) 0 (.int .i64 y0)))
  clear T1 hc2 hg2 HC HF HO HF2 HO2
  go_wp2_with fail
  generalize hV : u50.setCell ⟨F, 0, none⟩ (.int .i64 y0) = V50 at *
  clear hV f0 f1 f2 f3 f4 f5 f6 f7 f8 f9 f10 ff
  have HC := HC3
  have HF := HF3
  have HO := HO3
  clear HC3 HF3 HO3
  obtain ⟨f0, f1, f2, f3, f4, f5, f6, f7, f8, f9, f10, ff⟩ := HF.out.cells
  refine (version_walk F y0 V50 f0).mono ?_
  rintro e v ⟨rfl, hv⟩
  rw [hv]
  clear hv f0 f1 f2 f3 f4 f5 f6 f7 f8 f9 f10 ff
  go_wp2_with fail
  refine (demand_no g _ _ 4 V50 HC.out).mono ?_
  rintro e V51 ⟨rfl, hc2, hg2⟩
  have HF2 := hide (HF.out.only (Only.of_some hg2) HNF.out)
  have HO2 := hide (HO.out.trans (only_gq (F := F) hg2))
  have HC2 := hide hc2
  clear hc2 hg2 HC HF HO
  have HC := HC2
  have HF := HF2
  have HO := HO2
  clear HC2 HF2 HO2
  go_wp2_with fail
  by_cases hs : (20 : Int) ≤ y0 % 16 * 4
  · have HC2 := hide (Cur.drew (w := V51) HC.out)
    have HF2 := hide (FRq.drew (w := V51) HF.out)
    have HO2 := hide (HO.out.trans (only_drewq V51))
    refine region_tail 14 (by kernel_rfl) (by kernel_rfl) ?_
    clear HC HF HO
    generalize V51.drew = VQ at *
    have HC := HC2
    have HF := HF2
    have HO := HO2
    clear HC2 HF2 HO2
    obtain ⟨f0, f1, f2, f3, f4, f5, f6, f7, f8, f9, f10, ff⟩ := HF.out.cells
    obtain ⟨c0, c1, c2, cf⟩ := HC.out.cells
    simp only [List.take_succ_cons, List.take_zero, List.drop_succ_cons, List.drop_zero]
    repeat (first | go_big_quiet_skip | (go_big_quiet_want; go_big_quiet_op; first | go_big_quiet_on | (apply Exists.intro; refine ⟨hsize_walk F y0 VQ f0, ?_⟩; go_big_quiet_on)))
    refine wpQuiet_nil ?_
    clear c0 c1 c2 cf f0 f1 f2 f3 f4 f5 f6 f7 f8 f9 f10 ff
    go_wp2_with fail
    refine (demand_err g _ _ 4 _ _ VQ HC.out).mono ?_
    rintro e v ⟨rfl, hv⟩
    rw [hv]
    clear hv
    go_wp2_with fail
    refine (take_err g _ n cap (some ⟨b, off, none⟩) 4 1 VQ HC.out (by omega) (by omega) (by omega) (by omega)).mono ?_
    rintro e u60 ⟨rfl, m60, rfl⟩
    have HF2 := hide (FRq.drewN (w := VQ) HF.out m60)
    have HO2 := hide (HO.out.trans (only_drewNq VQ m60))
    have HC2 := hide (Cur.drewN (w := VQ) HC.out m60)
    generalize VQ.drewN m60 = U60 at *
    obtain ⟨f0, f1, f2, f3, f4, f5, f6, f7, f8, f9, f10, ff⟩ := HF2.out.cells
    have HF3 := hide (HF2.out.set1 0)
    have HC3 := hide (HC2.out.kept (grown_cell U60 F 1 (.int .i64 0)) HNE.out)
    have HO3 := hide (HO2.out.trans (only_cellq (g := g) 1 (.int .i64 0)))
    clear HC HF HO HF2 HO2 HC2
    go_wp2_with fail
    generalize hV : U60.setCell ⟨F, 1, none⟩ (.int .i64 0) = V60 at *
    clear hV f0 f1 f2 f3 f4 f5 f6 f7 f8 f9 f10 ff
    have HC := HC3
    have HF := HF3
    have HO := HO3
    clear HC3 HF3 HO3
    refine (take_err g _ n cap (some ⟨b, off, none⟩) 4 2 V60 HC.out (by omega) (by omega) (by omega) (by omega)).mono ?_
    rintro e u61 ⟨rfl, m61, rfl⟩
    have HF2 := hide (FRq.drewN (w := V60) HF.out m61)
    have HO2 := hide (HO.out.trans (only_drewNq V60 m61))
    have HC2 := hide (Cur.drewN (w := V60) HC.out m61)
    generalize V60.drewN m61 = U61 at *
    obtain ⟨f0, f1, f2, f3, f4, f5, f6, f7, f8, f9, f10, ff⟩ := HF2.out.cells
    have HF3 := hide (HF2.out.set2 0)
    have HC3 := hide (HC2.out.kept (grown_cell U61 F 2 (.int .i64 0)) HNE.out)
    have HO3 := hide (HO2.out.trans (only_cellq (g := g) 2 (.int .i64 0)))
    clear HC HF HO HF2 HO2 HC2
    go_wp2_with fail
    generalize hV : U61.setCell ⟨F, 2, none⟩ (.int .i64 0) = V61 at *
    clear hV f0 f1 f2 f3 f4 f5 f6 f7 f8 f9 f10 ff
    have HC := HC3
    have HF := HF3
    have HO := HO3
    clear HC3 HF3 HO3
    refine (take_err g _ n cap (some ⟨b, off, none⟩) 4 2 V61 HC.out (by omega) (by omega) (by omega) (by omega)).mono ?_
    rintro e u62 ⟨rfl, m62, rfl⟩
    have HF2 := hide (FRq.drewN (w := V61) HF.out m62)
    have HO2 := hide (HO.out.trans (only_drewNq V61 m62))
    have HC2 := hide (Cur.drewN (w := V61) HC.out m62)
    generalize V61.drewN m62 = U62 at *
    obtain ⟨f0, f1, f2, f3, f4, f5, f6, f7, f8, f9, f10, ff⟩ := HF2.out.cells
    have HF3 := hide (HF2.out.set3 0)
    have HC3 := hide (HC2.out.kept (grown_cell U62 F 3 (.int .i64 0)) HNE.out)
    have HO3 := hide (HO2.out.trans (only_cellq (g := g) 3 (.int .i64 0)))
    clear HC HF HO HF2 HO2 HC2
    go_wp2_with fail
    generalize hV : U62.setCell ⟨F, 3, none⟩ (.int .i64 0) = V62 at *
    clear hV f0 f1 f2 f3 f4 f5 f6 f7 f8 f9 f10 ff
    have HC := HC3
    have HF := HF3
    have HO := HO3
    clear HC3 HF3 HO3
    refine (take_err g _ n cap (some ⟨b, off, none⟩) 4 2 V62 HC.out (by omega) (by omega) (by omega) (by omega)).mono ?_
    rintro e u63 ⟨rfl, m63, rfl⟩
    have HF2 := hide (FRq.drewN (w := V62) HF.out m63)
    have HO2 := hide (HO.out.trans (only_drewNq V62 m63))
    have HC2 := hide (Cur.drewN (w := V62) HC.out m63)
    generalize V62.drewN m63 = U63 at *
    obtain ⟨f0, f1, f2, f3, f4, f5, f6, f7, f8, f9, f10, ff⟩ := HF2.out.cells
    have HF3 := hide (HF2.out.set4 0)
    have HC3 := hide (HC2.out.kept (grown_cell U63 F 4 (.int .i64 0)) HNE.out)
    have HO3 := hide (HO2.out.trans (only_cellq (g := g) 4 (.int .i64 0)))
    clear HC HF HO HF2 HO2 HC2
    go_wp2_with fail
    generalize hV : U63.setCell ⟨F, 4, none⟩ (.int .i64 0) = V63 at *
    clear hV f0 f1 f2 f3 f4 f5 f6 f7 f8 f9 f10 ff
    have HC := HC3
    have HF := HF3
    have HO := HO3
    clear HC3 HF3 HO3
    refine (take_err g _ n cap (some ⟨b, off, none⟩) 4 1 V63 HC.out (by omega) (by omega) (by omega) (by omega)).mono ?_
    rintro e u64 ⟨rfl, m64, rfl⟩
    have HF2 := hide (FRq.drewN (w := V63) HF.out m64)
    have HO2 := hide (HO.out.trans (only_drewNq V63 m64))
    have HC2 := hide (Cur.drewN (w := V63) HC.out m64)
    generalize V63.drewN m64 = U64 at *
    obtain ⟨f0, f1, f2, f3, f4, f5, f6, f7, f8, f9, f10, ff⟩ := HF2.out.cells
    have HF3 := hide (HF2.out.set5 0)
    have HC3 := hide (HC2.out.kept (grown_cell U64 F 5 (.int .i64 0)) HNE.out)
    have HO3 := hide (HO2.out.trans (only_cellq (g := g) 5 (.int .i64 0)))
    clear HC HF HO HF2 HO2 HC2
    go_wp2_with fail
    generalize hV : U64.setCell ⟨F, 5, none⟩ (.int .i64 0) = V64 at *
    clear hV f0 f1 f2 f3 f4 f5 f6 f7 f8 f9 f10 ff
    have HC := HC3
    have HF := HF3
    have HO := HO3
    clear HC3 HF3 HO3
    refine (take_err g _ n cap (some ⟨b, off, none⟩) 4 1 V64 HC.out (by omega) (by omega) (by omega) (by omega)).mono ?_
    rintro e u65 ⟨rfl, m65, rfl⟩
    have HF2 := hide (FRq.drewN (w := V64) HF.out m65)
    have HO2 := hide (HO.out.trans (only_drewNq V64 m65))
    have HC2 := hide (Cur.drewN (w := V64) HC.out m65)
    generalize V64.drewN m65 = U65 at *
    obtain ⟨f0, f1, f2, f3, f4, f5, f6, f7, f8, f9, f10, ff⟩ := HF2.out.cells
    have HF3 := hide (HF2.out.set6 0)
    have HC3 := hide (HC2.out.kept (grown_cell U65 F 6 (.int .i64 0)) HNE.out)
    have HO3 := hide (HO2.out.trans (only_cellq (g := g) 6 (.int .i64 0)))
    clear HC HF HO HF2 HO2 HC2
    go_wp2_with fail
    generalize hV : U65.setCell ⟨F, 6, none⟩ (.int .i64 0) = V65 at *
    clear hV f0 f1 f2 f3 f4 f5 f6 f7 f8 f9 f10 ff
    have HC := HC3
    have HF := HF3
    have HO := HO3
    clear HC3 HF3 HO3
    refine (pass_err g _ n cap (some ⟨b, off, none⟩) 4 2 V65 HC.out (by omega) (by omega) (by omega) (by omega)).mono ?_
    rintro e u66 ⟨rfl, m66, rfl⟩
    have HF2 := hide (FRq.drewN (w := V65) HF.out m66)
    have HO2 := hide (HO.out.trans (only_drewNq V65 m66))
    have HC2 := hide (Cur.drewN (w := V65) HC.out m66)
    generalize V65.drewN m66 = V66 at *
    clear HC HF HO
    have HC := HC2
    have HF := HF2
    have HO := HO2
    clear HC2 HF2 HO2
    go_wp2_with fail
    refine (take_err g _ n cap (some ⟨b, off, none⟩) 4 4 V66 HC.out (by omega) (by omega) (by omega) (by omega)).mono ?_
    rintro e u67 ⟨rfl, m67, rfl⟩
    have HF2 := hide (FRq.drewN (w := V66) HF.out m67)
    have HO2 := hide (HO.out.trans (only_drewNq V66 m67))
    have HC2 := hide (Cur.drewN (w := V66) HC.out m67)
    generalize V66.drewN m67 = U67 at *
    obtain ⟨f0, f1, f2, f3, f4, f5, f6, f7, f8, f9, f10, ff⟩ := HF2.out.cells
    have HF3 := hide (HF2.out.set7 0)
    have HC3 := hide (HC2.out.kept (grown_cell U67 F 7 (.int .i64 0)) HNE.out)
    have HO3 := hide (HO2.out.trans (only_cellq (g := g) 7 (.int .i64 0)))
    clear HC HF HO HF2 HO2 HC2
    go_wp2_with fail
    generalize hV : U67.setCell ⟨F, 7, none⟩ (.int .i64 0) = V67 at *
    clear hV f0 f1 f2 f3 f4 f5 f6 f7 f8 f9 f10 ff
    have HC := HC3
    have HF := HF3
    have HO := HO3
    clear HC3 HF3 HO3
    refine (take_err g _ n cap (some ⟨b, off, none⟩) 4 4 V67 HC.out (by omega) (by omega) (by omega) (by omega)).mono ?_
    rintro e u68 ⟨rfl, m68, rfl⟩
    have HF2 := hide (FRq.drewN (w := V67) HF.out m68)
    have HO2 := hide (HO.out.trans (only_drewNq V67 m68))
    have HC2 := hide (Cur.drewN (w := V67) HC.out m68)
    generalize V67.drewN m68 = U68 at *
    obtain ⟨f0, f1, f2, f3, f4, f5, f6, f7, f8, f9, f10, ff⟩ := HF2.out.cells
    have HF3 := hide (HF2.out.set8 0)
    have HC3 := hide (HC2.out.kept (grown_cell U68 F 8 (.int .i64 0)) HNE.out)
    have HO3 := hide (HO2.out.trans (only_cellq (g := g) 8 (.int .i64 0)))
    clear HC HF HO HF2 HO2 HC2
    go_wp2_with fail
    generalize hV : U68.setCell ⟨F, 8, none⟩ (.int .i64 0) = V68 at *
    clear hV f0 f1 f2 f3 f4 f5 f6 f7 f8 f9 f10 ff
    have HC := HC3
    have HF := HF3
    have HO := HO3
    clear HC3 HF3 HO3
    obtain ⟨f0, f1, f2, f3, f4, f5, f6, f7, f8, f9, f10, ff⟩ := HF.out.cells
    refine (hsize_walk F y0 V68 f0).mono ?_
    rintro e v ⟨rfl, hv⟩
    rw [hv]
    clear hv f0 f1 f2 f3 f4 f5 f6 f7 f8 f9 f10 ff
    go_wp2_with fail
    refine (takeBytes_err g _ n cap (some ⟨b, off, none⟩) 4 _ V68 HC.out (by omega) (by omega) (by omega) (by omega)).mono ?_
    rintro e U ⟨rfl, hbU⟩
    have HF2 := hide (HF.out.only (Only.of_below (S := [g]) hbU) HNF.out)
    have HO2 := hide (HO.out.trans (Only.of_below hbU))
    have HC2 := hide (HC.out.below hbU HC.out.lt)
    clear HC HF HO hbU
    generalize V68.heap.size = K at *
    obtain ⟨f0, f1, f2, f3, f4, f5, f6, f7, f8, f9, f10, ff⟩ := HF2.out.cells
    have HF3 := hide (HF2.out.set9 (.slice (some ⟨K, 0, none⟩) 0 0))
    have HC3 := hide (HC2.out.kept (grown_cell U F 9 (.slice (some ⟨K, 0, none⟩) 0 0)) HNE.out)
    have HO3 := hide (HO2.out.trans (only_cellq (g := g) 9 (.slice (some ⟨K, 0, none⟩) 0 0)))
    clear HF2 HO2 HC2
    go_wp2_with fail
    generalize hV : U.setCell ⟨F, 9, none⟩ (.slice (some ⟨K, 0, none⟩) 0 0) = V at *
    clear hV f0 f1 f2 f3 f4 f5 f6 f7 f8 f9 f10 ff
    refine (passed_walk g 1 n cap b off (wErr 4) V HC3.out (by omega) (by omega)).mono ?_
    rintro e v ⟨rfl, mp, rfl⟩
    go_wp2_with fail
    refine (checksum_walk (some ⟨b, off, none⟩) 1 cap (zs.take 1) _ (by rw [List.length_take, HN.out]; omega) (show Arr (V.drewN mp) _ _ from (arr_only HA.out HO3.out HAN.out).take 1) (by omega)).mono ?_
    rintro e X ⟨rfl, hbk, _⟩
    have hbX : Below V.heap.size V X := ⟨hbk.os, hbk.tape, hbk.output, hbk.size, hbk.block⟩
    have HF4 := hide (HF3.out.only (Only.of_below (S := [g]) hbX) HNF.out)
    have HO4 := hide (HO3.out.trans (Only.of_below hbX))
    have HC4 := hide (HC3.out.below hbX HC3.out.lt)
    clear HC3 HF3 HO3 hbk hbX
    go_wp2_with fail
    refine (demand_err g _ _ 4 _ _ X HC4.out).mono ?_
    rintro e v ⟨rfl, hv⟩
    rw [hv]
    clear hv
    go_wp2_with fail
    go_end0
    exact ⟨_, 1, rfl, HC4.out, HF4.out, HO4.out, by omega⟩
  · have hs' : decide ((20 : Int) ≤ y0 % 16 * 4) = false := decide_eq_false hs
    clear hs
    have HC2 := hide (Cur.drew (w := V51) HC.out)
    have HF2 := hide (FRq.drew (w := V51) HF.out)
    have HO2 := hide (HO.out.trans (only_drewq V51))
    refine region_tail 14 (by kernel_rfl) (by kernel_rfl) ?_
    clear HC HF HO
    generalize V51.drew = VQ at *
    have HC := HC2
    have HF := HF2
    have HO := HO2
    clear HC2 HF2 HO2
    obtain ⟨f0, f1, f2, f3, f4, f5, f6, f7, f8, f9, f10, ff⟩ := HF.out.cells
    obtain ⟨c0, c1, c2, cf⟩ := HC.out.cells
    simp only [List.take_succ_cons, List.take_zero, List.drop_succ_cons, List.drop_zero]
    repeat (first | go_big_quiet_skip | (go_big_quiet_want; go_big_quiet_op; first | go_big_quiet_on | (apply Exists.intro; refine ⟨hsize_walk F y0 VQ f0, ?_⟩; go_big_quiet_on)))
    refine wpQuiet_nil ?_
    clear c0 c1 c2 cf f0 f1 f2 f3 f4 f5 f6 f7 f8 f9 f10 ff
    go_wp2_with fail
    refine (demand_err g _ _ 4 _ _ VQ HC.out).mono ?_
    rintro e v ⟨rfl, hv⟩
    rw [hv]
    clear hv
    go_wp2_with fail
    refine (take_err g _ n cap (some ⟨b, off, none⟩) 4 1 VQ HC.out (by omega) (by omega) (by omega) (by omega)).mono ?_
    rintro e u60 ⟨rfl, m60, rfl⟩
    have HF2 := hide (FRq.drewN (w := VQ) HF.out m60)
    have HO2 := hide (HO.out.trans (only_drewNq VQ m60))
    have HC2 := hide (Cur.drewN (w := VQ) HC.out m60)
    generalize VQ.drewN m60 = U60 at *
    obtain ⟨f0, f1, f2, f3, f4, f5, f6, f7, f8, f9, f10, ff⟩ := HF2.out.cells
    have HF3 := hide (HF2.out.set1 0)
    have HC3 := hide (HC2.out.kept (grown_cell U60 F 1 (.int .i64 0)) HNE.out)
    have HO3 := hide (HO2.out.trans (only_cellq (g := g) 1 (.int .i64 0)))
    clear HC HF HO HF2 HO2 HC2
    go_wp2_with fail
    generalize hV : U60.setCell ⟨F, 1, none⟩ (.int .i64 0) = V60 at *
    clear hV f0 f1 f2 f3 f4 f5 f6 f7 f8 f9 f10 ff
    have HC := HC3
    have HF := HF3
    have HO := HO3
    clear HC3 HF3 HO3
    refine (take_err g _ n cap (some ⟨b, off, none⟩) 4 2 V60 HC.out (by omega) (by omega) (by omega) (by omega)).mono ?_
    rintro e u61 ⟨rfl, m61, rfl⟩
    have HF2 := hide (FRq.drewN (w := V60) HF.out m61)
    have HO2 := hide (HO.out.trans (only_drewNq V60 m61))
    have HC2 := hide (Cur.drewN (w := V60) HC.out m61)
    generalize V60.drewN m61 = U61 at *
    obtain ⟨f0, f1, f2, f3, f4, f5, f6, f7, f8, f9, f10, ff⟩ := HF2.out.cells
    have HF3 := hide (HF2.out.set2 0)
    have HC3 := hide (HC2.out.kept (grown_cell U61 F 2 (.int .i64 0)) HNE.out)
    have HO3 := hide (HO2.out.trans (only_cellq (g := g) 2 (.int .i64 0)))
    clear HC HF HO HF2 HO2 HC2
    go_wp2_with fail
    generalize hV : U61.setCell ⟨F, 2, none⟩ (.int .i64 0) = V61 at *
    clear hV f0 f1 f2 f3 f4 f5 f6 f7 f8 f9 f10 ff
    have HC := HC3
    have HF := HF3
    have HO := HO3
    clear HC3 HF3 HO3
    refine (take_err g _ n cap (some ⟨b, off, none⟩) 4 2 V61 HC.out (by omega) (by omega) (by omega) (by omega)).mono ?_
    rintro e u62 ⟨rfl, m62, rfl⟩
    have HF2 := hide (FRq.drewN (w := V61) HF.out m62)
    have HO2 := hide (HO.out.trans (only_drewNq V61 m62))
    have HC2 := hide (Cur.drewN (w := V61) HC.out m62)
    generalize V61.drewN m62 = U62 at *
    obtain ⟨f0, f1, f2, f3, f4, f5, f6, f7, f8, f9, f10, ff⟩ := HF2.out.cells
    have HF3 := hide (HF2.out.set3 0)
    have HC3 := hide (HC2.out.kept (grown_cell U62 F 3 (.int .i64 0)) HNE.out)
    have HO3 := hide (HO2.out.trans (only_cellq (g := g) 3 (.int .i64 0)))
    clear HC HF HO HF2 HO2 HC2
    go_wp2_with fail
    generalize hV : U62.setCell ⟨F, 3, none⟩ (.int .i64 0) = V62 at *
    clear hV f0 f1 f2 f3 f4 f5 f6 f7 f8 f9 f10 ff
    have HC := HC3
    have HF := HF3
    have HO := HO3
    clear HC3 HF3 HO3
    refine (take_err g _ n cap (some ⟨b, off, none⟩) 4 2 V62 HC.out (by omega) (by omega) (by omega) (by omega)).mono ?_
    rintro e u63 ⟨rfl, m63, rfl⟩
    have HF2 := hide (FRq.drewN (w := V62) HF.out m63)
    have HO2 := hide (HO.out.trans (only_drewNq V62 m63))
    have HC2 := hide (Cur.drewN (w := V62) HC.out m63)
    generalize V62.drewN m63 = U63 at *
    obtain ⟨f0, f1, f2, f3, f4, f5, f6, f7, f8, f9, f10, ff⟩ := HF2.out.cells
    have HF3 := hide (HF2.out.set4 0)
    have HC3 := hide (HC2.out.kept (grown_cell U63 F 4 (.int .i64 0)) HNE.out)
    have HO3 := hide (HO2.out.trans (only_cellq (g := g) 4 (.int .i64 0)))
    clear HC HF HO HF2 HO2 HC2
    go_wp2_with fail
    generalize hV : U63.setCell ⟨F, 4, none⟩ (.int .i64 0) = V63 at *
    clear hV f0 f1 f2 f3 f4 f5 f6 f7 f8 f9 f10 ff
    have HC := HC3
    have HF := HF3
    have HO := HO3
    clear HC3 HF3 HO3
    refine (take_err g _ n cap (some ⟨b, off, none⟩) 4 1 V63 HC.out (by omega) (by omega) (by omega) (by omega)).mono ?_
    rintro e u64 ⟨rfl, m64, rfl⟩
    have HF2 := hide (FRq.drewN (w := V63) HF.out m64)
    have HO2 := hide (HO.out.trans (only_drewNq V63 m64))
    have HC2 := hide (Cur.drewN (w := V63) HC.out m64)
    generalize V63.drewN m64 = U64 at *
    obtain ⟨f0, f1, f2, f3, f4, f5, f6, f7, f8, f9, f10, ff⟩ := HF2.out.cells
    have HF3 := hide (HF2.out.set5 0)
    have HC3 := hide (HC2.out.kept (grown_cell U64 F 5 (.int .i64 0)) HNE.out)
    have HO3 := hide (HO2.out.trans (only_cellq (g := g) 5 (.int .i64 0)))
    clear HC HF HO HF2 HO2 HC2
    go_wp2_with fail
    generalize hV : U64.setCell ⟨F, 5, none⟩ (.int .i64 0) = V64 at *
    clear hV f0 f1 f2 f3 f4 f5 f6 f7 f8 f9 f10 ff
    have HC := HC3
    have HF := HF3
    have HO := HO3
    clear HC3 HF3 HO3
    refine (take_err g _ n cap (some ⟨b, off, none⟩) 4 1 V64 HC.out (by omega) (by omega) (by omega) (by omega)).mono ?_
    rintro e u65 ⟨rfl, m65, rfl⟩
    have HF2 := hide (FRq.drewN (w := V64) HF.out m65)
    have HO2 := hide (HO.out.trans (only_drewNq V64 m65))
    have HC2 := hide (Cur.drewN (w := V64) HC.out m65)
    generalize V64.drewN m65 = U65 at *
    obtain ⟨f0, f1, f2, f3, f4, f5, f6, f7, f8, f9, f10, ff⟩ := HF2.out.cells
    have HF3 := hide (HF2.out.set6 0)
    have HC3 := hide (HC2.out.kept (grown_cell U65 F 6 (.int .i64 0)) HNE.out)
    have HO3 := hide (HO2.out.trans (only_cellq (g := g) 6 (.int .i64 0)))
    clear HC HF HO HF2 HO2 HC2
    go_wp2_with fail
    generalize hV : U65.setCell ⟨F, 6, none⟩ (.int .i64 0) = V65 at *
    clear hV f0 f1 f2 f3 f4 f5 f6 f7 f8 f9 f10 ff
    have HC := HC3
    have HF := HF3
    have HO := HO3
    clear HC3 HF3 HO3
    refine (pass_err g _ n cap (some ⟨b, off, none⟩) 4 2 V65 HC.out (by omega) (by omega) (by omega) (by omega)).mono ?_
    rintro e u66 ⟨rfl, m66, rfl⟩
    have HF2 := hide (FRq.drewN (w := V65) HF.out m66)
    have HO2 := hide (HO.out.trans (only_drewNq V65 m66))
    have HC2 := hide (Cur.drewN (w := V65) HC.out m66)
    generalize V65.drewN m66 = V66 at *
    clear HC HF HO
    have HC := HC2
    have HF := HF2
    have HO := HO2
    clear HC2 HF2 HO2
    go_wp2_with fail
    refine (take_err g _ n cap (some ⟨b, off, none⟩) 4 4 V66 HC.out (by omega) (by omega) (by omega) (by omega)).mono ?_
    rintro e u67 ⟨rfl, m67, rfl⟩
    have HF2 := hide (FRq.drewN (w := V66) HF.out m67)
    have HO2 := hide (HO.out.trans (only_drewNq V66 m67))
    have HC2 := hide (Cur.drewN (w := V66) HC.out m67)
    generalize V66.drewN m67 = U67 at *
    obtain ⟨f0, f1, f2, f3, f4, f5, f6, f7, f8, f9, f10, ff⟩ := HF2.out.cells
    have HF3 := hide (HF2.out.set7 0)
    have HC3 := hide (HC2.out.kept (grown_cell U67 F 7 (.int .i64 0)) HNE.out)
    have HO3 := hide (HO2.out.trans (only_cellq (g := g) 7 (.int .i64 0)))
    clear HC HF HO HF2 HO2 HC2
    go_wp2_with fail
    generalize hV : U67.setCell ⟨F, 7, none⟩ (.int .i64 0) = V67 at *
    clear hV f0 f1 f2 f3 f4 f5 f6 f7 f8 f9 f10 ff
    have HC := HC3
    have HF := HF3
    have HO := HO3
    clear HC3 HF3 HO3
    refine (take_err g _ n cap (some ⟨b, off, none⟩) 4 4 V67 HC.out (by omega) (by omega) (by omega) (by omega)).mono ?_
    rintro e u68 ⟨rfl, m68, rfl⟩
    have HF2 := hide (FRq.drewN (w := V67) HF.out m68)
    have HO2 := hide (HO.out.trans (only_drewNq V67 m68))
    have HC2 := hide (Cur.drewN (w := V67) HC.out m68)
    generalize V67.drewN m68 = U68 at *
    obtain ⟨f0, f1, f2, f3, f4, f5, f6, f7, f8, f9, f10, ff⟩ := HF2.out.cells
    have HF3 := hide (HF2.out.set8 0)
    have HC3 := hide (HC2.out.kept (grown_cell U68 F 8 (.int .i64 0)) HNE.out)
    have HO3 := hide (HO2.out.trans (only_cellq (g := g) 8 (.int .i64 0)))
    clear HC HF HO HF2 HO2 HC2
    go_wp2_with fail
    generalize hV : U68.setCell ⟨F, 8, none⟩ (.int .i64 0) = V68 at *
    clear hV f0 f1 f2 f3 f4 f5 f6 f7 f8 f9 f10 ff
    have HC := HC3
    have HF := HF3
    have HO := HO3
    clear HC3 HF3 HO3
    obtain ⟨f0, f1, f2, f3, f4, f5, f6, f7, f8, f9, f10, ff⟩ := HF.out.cells
    refine (hsize_walk F y0 V68 f0).mono ?_
    rintro e v ⟨rfl, hv⟩
    rw [hv]
    clear hv f0 f1 f2 f3 f4 f5 f6 f7 f8 f9 f10 ff
    go_wp2_with fail
    refine (takeBytes_err g _ n cap (some ⟨b, off, none⟩) 4 _ V68 HC.out (by omega) (by omega) (by omega) (by omega)).mono ?_
    rintro e U ⟨rfl, hbU⟩
    have HF2 := hide (HF.out.only (Only.of_below (S := [g]) hbU) HNF.out)
    have HO2 := hide (HO.out.trans (Only.of_below hbU))
    have HC2 := hide (HC.out.below hbU HC.out.lt)
    clear HC HF HO hbU
    generalize V68.heap.size = K at *
    obtain ⟨f0, f1, f2, f3, f4, f5, f6, f7, f8, f9, f10, ff⟩ := HF2.out.cells
    have HF3 := hide (HF2.out.set9 (.slice (some ⟨K, 0, none⟩) 0 0))
    have HC3 := hide (HC2.out.kept (grown_cell U F 9 (.slice (some ⟨K, 0, none⟩) 0 0)) HNE.out)
    have HO3 := hide (HO2.out.trans (only_cellq (g := g) 9 (.slice (some ⟨K, 0, none⟩) 0 0)))
    clear HF2 HO2 HC2
    go_wp2_with fail
    generalize hV : U.setCell ⟨F, 9, none⟩ (.slice (some ⟨K, 0, none⟩) 0 0) = V at *
    clear hV f0 f1 f2 f3 f4 f5 f6 f7 f8 f9 f10 ff
    refine (passed_walk g 1 n cap b off (wErr 4) V HC3.out (by omega) (by omega)).mono ?_
    rintro e v ⟨rfl, mp, rfl⟩
    go_wp2_with fail
    refine (checksum_walk (some ⟨b, off, none⟩) 1 cap (zs.take 1) _ (by rw [List.length_take, HN.out]; omega) (show Arr (V.drewN mp) _ _ from (arr_only HA.out HO3.out HAN.out).take 1) (by omega)).mono ?_
    rintro e X ⟨rfl, hbk, _⟩
    have hbX : Below V.heap.size V X := ⟨hbk.os, hbk.tape, hbk.output, hbk.size, hbk.block⟩
    have HF4 := hide (HF3.out.only (Only.of_below (S := [g]) hbX) HNF.out)
    have HO4 := hide (HO3.out.trans (Only.of_below hbX))
    have HC4 := hide (HC3.out.below hbX HC3.out.lt)
    clear HC3 HF3 HO3 hbk hbX
    go_wp2_with fail
    refine (demand_err g _ _ 4 _ _ X HC4.out).mono ?_
    rintro e v ⟨rfl, hv⟩
    rw [hv]
    clear hv
    go_wp2_with fail
    go_end0
    exact ⟨_, 1, rfl, HC4.out, HF4.out, HO4.out, by omega⟩

set_option maxHeartbeats 8000000 in
theorem takeHead_lowq (g F n cap b off : Nat) (zs : List Int) (w : World) (hc : Cur w g (.slice (some ⟨b, off, none⟩) n cap) 0 .nilIface) (hf : FRq w F 0 0 0 0 0 0 0 0 0 (.slice none 0 0) (.slice none 0 0)) (hn : zs.length = n) (ha : Arr w (some ⟨b, off, none⟩) zs) (hm : n ≤ 1048576) (hcap : n ≤ cap) (h20 : 20 ≤ n) (hbg : b ≠ g) (hbF : b ≠ F) (hFg : F ≠ g) (y0 : Int) (hy0 : y0 = tnum ((zs.drop 0).take 1)) (hb0 : 0 ≤ y0) (hb1 : y0 ≤ 255) (hv : (y0 / 16 == 4) = true) (hs : decide ((20 : Int) ≤ y0 % 16 * 4) = false) :
    Calls Tryz.prog 50 #[.pointer (some ⟨F, 0, none⟩), .pointer (some ⟨g, 0, none⟩)] w fun e w' => ∃ (K p : Nat), e = .returned (.tuple #[]) ∧ Cur w' g (.slice (some ⟨b, off, none⟩) n cap) p (wErr 5) ∧ FRq w' F y0 0 0 0 0 0 0 0 0 (.slice (some ⟨K, 0, none⟩) 0 0) (.slice none 0 0) ∧ Only [g, F] w w' ∧ p ≤ n := by
  have HA := hide ha
  have HN := hide hn
  have HNE : Hid (some g ≠ some F) := hide (by intro e; cases e; exact hFg rfl)
  have HNF : Hid (F ∉ [g]) := hide (by simp [hFg])
  have HAN : Hid (∀ j, j < zs.length → ∃ b' off', (some ⟨b, off, none⟩ : Option Addr) = some ⟨b', off', none⟩ ∧ b' ∉ [g, F]) := hide (fun j hj => ⟨b, off, rfl, by simp [hbg, hbF]⟩)
  have h20' : (20 : Int) ≤ (n : Int) := by omega
  have HY0 := hide hy0
  clear ha hn hy0
  have CL := hide (left0_walkq g n cap (some ⟨b, off, none⟩) .nilIface w hc (by omega))
  have HC0 := hide hc
  have HF0 := hide hf
  clear hc hf
  go_enter Tryz.func50, Tryz.ntmps50
  go_wp2_with fail
  refine CL.out.mono ?_
  rintro e w1 ⟨rfl, m, rfl⟩
  have HC := hide (Cur.drewN (w := w) HC0.out m)
  have HF := hide (FRq.drewN (w := w) HF0.out m)
  have HO : Hid (Only [g, F] w (w.drewN m)) := hide (only_drewNq w m)
  clear HC0 HF0 CL
  generalize w.drewN m = W0 at *
  go_wp2_with fail
  refine (demand_yes g 0 _ 2 W0 HC.out).mono ?_
  rintro e v ⟨rfl, hv⟩
  rw [hv]
  clear hv
  go_wp2_with fail
  have t1 := tk1q g 0 n cap b off zs W0 HC.out (by omega) (by omega) hcap HN.out (arr_only HA.out HO.out HAN.out) hbg
  rw [show tnum ((zs.drop 0).take 1) = y0 from HY0.out.symm] at t1
  have T1 := hide t1
  clear t1
  refine T1.out.mono ?_
  rintro e u50 ⟨rfl, hc2, hg2⟩
  have HF2 := hide (HF.out.only (Only.of_some hg2) HNF.out)
  have HO2 := hide (HO.out.trans (only_gq (F := F) hg2))
  obtain ⟨f0, f1, f2, f3, f4, f5, f6, f7, f8, f9, f10, ff⟩ := HF2.out.cells
  have HF3 := hide (HF2.out.set0 y0)
  have HC3 : Hid (Cur (u50.setCell ⟨F, 0, none⟩ (.int .i64 y0)) g (.slice (some ⟨b, off, none⟩) n cap) 1 .nilIface) := hide (hc2.kept (grown_cell u50 F 0 _) HNE.out)
  have HO3 := hide (HO2.out.trans (only_cellq (g := g) 0 (.int .i64 y0)))
  clear T1 hc2 hg2 HC HF HO HF2 HO2
  go_wp2_with fail
  generalize hV : u50.setCell ⟨F, 0, none⟩ (.int .i64 y0) = V50 at *
  clear hV f0 f1 f2 f3 f4 f5 f6 f7 f8 f9 f10 ff
  have HC := HC3
  have HF := HF3
  have HO := HO3
  clear HC3 HF3 HO3
  obtain ⟨f0, f1, f2, f3, f4, f5, f6, f7, f8, f9, f10, ff⟩ := HF.out.cells
  refine (version_walk F y0 V50 f0).mono ?_
  rintro e v ⟨rfl, hv⟩
  rw [hv]
  clear hv f0 f1 f2 f3 f4 f5 f6 f7 f8 f9 f10 ff
  go_wp2_with fail
  refine (demand_yes g _ _ 4 V50 HC.out).mono ?_
  rintro e v ⟨rfl, hv⟩
  rw [hv]
  clear hv
  go_wp2_with fail
  have HC2 := hide (Cur.drew (w := V50) HC.out)
  have HF2 := hide (FRq.drew (w := V50) HF.out)
  have HO2 := hide (HO.out.trans (only_drewq V50))
  refine region_tail 14 (by kernel_rfl) (by kernel_rfl) ?_
  clear HC HF HO
  generalize V50.drew = VQ at *
  have HC := HC2
  have HF := HF2
  have HO := HO2
  clear HC2 HF2 HO2
  obtain ⟨f0, f1, f2, f3, f4, f5, f6, f7, f8, f9, f10, ff⟩ := HF.out.cells
  obtain ⟨c0, c1, c2, cf⟩ := HC.out.cells
  simp only [List.take_succ_cons, List.take_zero, List.drop_succ_cons, List.drop_zero]
  repeat (first | go_big_quiet_skip | (go_big_quiet_want; go_big_quiet_op; first | go_big_quiet_on | (apply Exists.intro; refine ⟨hsize_walk F y0 VQ f0, ?_⟩; go_big_quiet_on)))
  refine wpQuiet_nil ?_
  clear c0 c1 c2 cf f0 f1 f2 f3 f4 f5 f6 f7 f8 f9 f10 ff
  go_wp2_with fail
  refine (demand_no g _ _ 5 VQ HC.out).mono ?_
  rintro e V51 ⟨rfl, hc2, hg2⟩
  have HF2 := hide (HF.out.only (Only.of_some hg2) HNF.out)
  have HO2 := hide (HO.out.trans (only_gq (F := F) hg2))
  have HC2 := hide hc2
  clear hc2 hg2 HC HF HO
  have HC := HC2
  have HF := HF2
  have HO := HO2
  clear HC2 HF2 HO2
  go_wp2_with fail
  refine (take_err g _ n cap (some ⟨b, off, none⟩) 5 1 V51 HC.out (by omega) (by omega) (by omega) (by omega)).mono ?_
  rintro e u60 ⟨rfl, m60, rfl⟩
  have HF2 := hide (FRq.drewN (w := V51) HF.out m60)
  have HO2 := hide (HO.out.trans (only_drewNq V51 m60))
  have HC2 := hide (Cur.drewN (w := V51) HC.out m60)
  generalize V51.drewN m60 = U60 at *
  obtain ⟨f0, f1, f2, f3, f4, f5, f6, f7, f8, f9, f10, ff⟩ := HF2.out.cells
  have HF3 := hide (HF2.out.set1 0)
  have HC3 := hide (HC2.out.kept (grown_cell U60 F 1 (.int .i64 0)) HNE.out)
  have HO3 := hide (HO2.out.trans (only_cellq (g := g) 1 (.int .i64 0)))
  clear HC HF HO HF2 HO2 HC2
  go_wp2_with fail
  generalize hV : U60.setCell ⟨F, 1, none⟩ (.int .i64 0) = V60 at *
  clear hV f0 f1 f2 f3 f4 f5 f6 f7 f8 f9 f10 ff
  have HC := HC3
  have HF := HF3
  have HO := HO3
  clear HC3 HF3 HO3
  refine (take_err g _ n cap (some ⟨b, off, none⟩) 5 2 V60 HC.out (by omega) (by omega) (by omega) (by omega)).mono ?_
  rintro e u61 ⟨rfl, m61, rfl⟩
  have HF2 := hide (FRq.drewN (w := V60) HF.out m61)
  have HO2 := hide (HO.out.trans (only_drewNq V60 m61))
  have HC2 := hide (Cur.drewN (w := V60) HC.out m61)
  generalize V60.drewN m61 = U61 at *
  obtain ⟨f0, f1, f2, f3, f4, f5, f6, f7, f8, f9, f10, ff⟩ := HF2.out.cells
  have HF3 := hide (HF2.out.set2 0)
  have HC3 := hide (HC2.out.kept (grown_cell U61 F 2 (.int .i64 0)) HNE.out)
  have HO3 := hide (HO2.out.trans (only_cellq (g := g) 2 (.int .i64 0)))
  clear HC HF HO HF2 HO2 HC2
  go_wp2_with fail
  generalize hV : U61.setCell ⟨F, 2, none⟩ (.int .i64 0) = V61 at *
  clear hV f0 f1 f2 f3 f4 f5 f6 f7 f8 f9 f10 ff
  have HC := HC3
  have HF := HF3
  have HO := HO3
  clear HC3 HF3 HO3
  refine (take_err g _ n cap (some ⟨b, off, none⟩) 5 2 V61 HC.out (by omega) (by omega) (by omega) (by omega)).mono ?_
  rintro e u62 ⟨rfl, m62, rfl⟩
  have HF2 := hide (FRq.drewN (w := V61) HF.out m62)
  have HO2 := hide (HO.out.trans (only_drewNq V61 m62))
  have HC2 := hide (Cur.drewN (w := V61) HC.out m62)
  generalize V61.drewN m62 = U62 at *
  obtain ⟨f0, f1, f2, f3, f4, f5, f6, f7, f8, f9, f10, ff⟩ := HF2.out.cells
  have HF3 := hide (HF2.out.set3 0)
  have HC3 := hide (HC2.out.kept (grown_cell U62 F 3 (.int .i64 0)) HNE.out)
  have HO3 := hide (HO2.out.trans (only_cellq (g := g) 3 (.int .i64 0)))
  clear HC HF HO HF2 HO2 HC2
  go_wp2_with fail
  generalize hV : U62.setCell ⟨F, 3, none⟩ (.int .i64 0) = V62 at *
  clear hV f0 f1 f2 f3 f4 f5 f6 f7 f8 f9 f10 ff
  have HC := HC3
  have HF := HF3
  have HO := HO3
  clear HC3 HF3 HO3
  refine (take_err g _ n cap (some ⟨b, off, none⟩) 5 2 V62 HC.out (by omega) (by omega) (by omega) (by omega)).mono ?_
  rintro e u63 ⟨rfl, m63, rfl⟩
  have HF2 := hide (FRq.drewN (w := V62) HF.out m63)
  have HO2 := hide (HO.out.trans (only_drewNq V62 m63))
  have HC2 := hide (Cur.drewN (w := V62) HC.out m63)
  generalize V62.drewN m63 = U63 at *
  obtain ⟨f0, f1, f2, f3, f4, f5, f6, f7, f8, f9, f10, ff⟩ := HF2.out.cells
  have HF3 := hide (HF2.out.set4 0)
  have HC3 := hide (HC2.out.kept (grown_cell U63 F 4 (.int .i64 0)) HNE.out)
  have HO3 := hide (HO2.out.trans (only_cellq (g := g) 4 (.int .i64 0)))
  clear HC HF HO HF2 HO2 HC2
  go_wp2_with fail
  generalize hV : U63.setCell ⟨F, 4, none⟩ (.int .i64 0) = V63 at *
  clear hV f0 f1 f2 f3 f4 f5 f6 f7 f8 f9 f10 ff
  have HC := HC3
  have HF := HF3
  have HO := HO3
  clear HC3 HF3 HO3
  refine (take_err g _ n cap (some ⟨b, off, none⟩) 5 1 V63 HC.out (by omega) (by omega) (by omega) (by omega)).mono ?_
  rintro e u64 ⟨rfl, m64, rfl⟩
  have HF2 := hide (FRq.drewN (w := V63) HF.out m64)
  have HO2 := hide (HO.out.trans (only_drewNq V63 m64))
  have HC2 := hide (Cur.drewN (w := V63) HC.out m64)
  generalize V63.drewN m64 = U64 at *
  obtain ⟨f0, f1, f2, f3, f4, f5, f6, f7, f8, f9, f10, ff⟩ := HF2.out.cells
  have HF3 := hide (HF2.out.set5 0)
  have HC3 := hide (HC2.out.kept (grown_cell U64 F 5 (.int .i64 0)) HNE.out)
  have HO3 := hide (HO2.out.trans (only_cellq (g := g) 5 (.int .i64 0)))
  clear HC HF HO HF2 HO2 HC2
  go_wp2_with fail
  generalize hV : U64.setCell ⟨F, 5, none⟩ (.int .i64 0) = V64 at *
  clear hV f0 f1 f2 f3 f4 f5 f6 f7 f8 f9 f10 ff
  have HC := HC3
  have HF := HF3
  have HO := HO3
  clear HC3 HF3 HO3
  refine (take_err g _ n cap (some ⟨b, off, none⟩) 5 1 V64 HC.out (by omega) (by omega) (by omega) (by omega)).mono ?_
  rintro e u65 ⟨rfl, m65, rfl⟩
  have HF2 := hide (FRq.drewN (w := V64) HF.out m65)
  have HO2 := hide (HO.out.trans (only_drewNq V64 m65))
  have HC2 := hide (Cur.drewN (w := V64) HC.out m65)
  generalize V64.drewN m65 = U65 at *
  obtain ⟨f0, f1, f2, f3, f4, f5, f6, f7, f8, f9, f10, ff⟩ := HF2.out.cells
  have HF3 := hide (HF2.out.set6 0)
  have HC3 := hide (HC2.out.kept (grown_cell U65 F 6 (.int .i64 0)) HNE.out)
  have HO3 := hide (HO2.out.trans (only_cellq (g := g) 6 (.int .i64 0)))
  clear HC HF HO HF2 HO2 HC2
  go_wp2_with fail
  generalize hV : U65.setCell ⟨F, 6, none⟩ (.int .i64 0) = V65 at *
  clear hV f0 f1 f2 f3 f4 f5 f6 f7 f8 f9 f10 ff
  have HC := HC3
  have HF := HF3
  have HO := HO3
  clear HC3 HF3 HO3
  refine (pass_err g _ n cap (some ⟨b, off, none⟩) 5 2 V65 HC.out (by omega) (by omega) (by omega) (by omega)).mono ?_
  rintro e u66 ⟨rfl, m66, rfl⟩
  have HF2 := hide (FRq.drewN (w := V65) HF.out m66)
  have HO2 := hide (HO.out.trans (only_drewNq V65 m66))
  have HC2 := hide (Cur.drewN (w := V65) HC.out m66)
  generalize V65.drewN m66 = V66 at *
  clear HC HF HO
  have HC := HC2
  have HF := HF2
  have HO := HO2
  clear HC2 HF2 HO2
  go_wp2_with fail
  refine (take_err g _ n cap (some ⟨b, off, none⟩) 5 4 V66 HC.out (by omega) (by omega) (by omega) (by omega)).mono ?_
  rintro e u67 ⟨rfl, m67, rfl⟩
  have HF2 := hide (FRq.drewN (w := V66) HF.out m67)
  have HO2 := hide (HO.out.trans (only_drewNq V66 m67))
  have HC2 := hide (Cur.drewN (w := V66) HC.out m67)
  generalize V66.drewN m67 = U67 at *
  obtain ⟨f0, f1, f2, f3, f4, f5, f6, f7, f8, f9, f10, ff⟩ := HF2.out.cells
  have HF3 := hide (HF2.out.set7 0)
  have HC3 := hide (HC2.out.kept (grown_cell U67 F 7 (.int .i64 0)) HNE.out)
  have HO3 := hide (HO2.out.trans (only_cellq (g := g) 7 (.int .i64 0)))
  clear HC HF HO HF2 HO2 HC2
  go_wp2_with fail
  generalize hV : U67.setCell ⟨F, 7, none⟩ (.int .i64 0) = V67 at *
  clear hV f0 f1 f2 f3 f4 f5 f6 f7 f8 f9 f10 ff
  have HC := HC3
  have HF := HF3
  have HO := HO3
  clear HC3 HF3 HO3
  refine (take_err g _ n cap (some ⟨b, off, none⟩) 5 4 V67 HC.out (by omega) (by omega) (by omega) (by omega)).mono ?_
  rintro e u68 ⟨rfl, m68, rfl⟩
  have HF2 := hide (FRq.drewN (w := V67) HF.out m68)
  have HO2 := hide (HO.out.trans (only_drewNq V67 m68))
  have HC2 := hide (Cur.drewN (w := V67) HC.out m68)
  generalize V67.drewN m68 = U68 at *
  obtain ⟨f0, f1, f2, f3, f4, f5, f6, f7, f8, f9, f10, ff⟩ := HF2.out.cells
  have HF3 := hide (HF2.out.set8 0)
  have HC3 := hide (HC2.out.kept (grown_cell U68 F 8 (.int .i64 0)) HNE.out)
  have HO3 := hide (HO2.out.trans (only_cellq (g := g) 8 (.int .i64 0)))
  clear HC HF HO HF2 HO2 HC2
  go_wp2_with fail
  generalize hV : U68.setCell ⟨F, 8, none⟩ (.int .i64 0) = V68 at *
  clear hV f0 f1 f2 f3 f4 f5 f6 f7 f8 f9 f10 ff
  have HC := HC3
  have HF := HF3
  have HO := HO3
  clear HC3 HF3 HO3
  obtain ⟨f0, f1, f2, f3, f4, f5, f6, f7, f8, f9, f10, ff⟩ := HF.out.cells
  refine (hsize_walk F y0 V68 f0).mono ?_
  rintro e v ⟨rfl, hv⟩
  rw [hv]
  clear hv f0 f1 f2 f3 f4 f5 f6 f7 f8 f9 f10 ff
  go_wp2_with fail
  refine (takeBytes_err g _ n cap (some ⟨b, off, none⟩) 5 _ V68 HC.out (by omega) (by omega) (by omega) (by omega)).mono ?_
  rintro e U ⟨rfl, hbU⟩
  have HF2 := hide (HF.out.only (Only.of_below (S := [g]) hbU) HNF.out)
  have HO2 := hide (HO.out.trans (Only.of_below hbU))
  have HC2 := hide (HC.out.below hbU HC.out.lt)
  clear HC HF HO hbU
  generalize V68.heap.size = K at *
  obtain ⟨f0, f1, f2, f3, f4, f5, f6, f7, f8, f9, f10, ff⟩ := HF2.out.cells
  have HF3 := hide (HF2.out.set9 (.slice (some ⟨K, 0, none⟩) 0 0))
  have HC3 := hide (HC2.out.kept (grown_cell U F 9 (.slice (some ⟨K, 0, none⟩) 0 0)) HNE.out)
  have HO3 := hide (HO2.out.trans (only_cellq (g := g) 9 (.slice (some ⟨K, 0, none⟩) 0 0)))
  clear HF2 HO2 HC2
  go_wp2_with fail
  generalize hV : U.setCell ⟨F, 9, none⟩ (.slice (some ⟨K, 0, none⟩) 0 0) = V at *
  clear hV f0 f1 f2 f3 f4 f5 f6 f7 f8 f9 f10 ff
  refine (passed_walk g 1 n cap b off (wErr 5) V HC3.out (by omega) (by omega)).mono ?_
  rintro e v ⟨rfl, mp, rfl⟩
  go_wp2_with fail
  refine (checksum_walk (some ⟨b, off, none⟩) 1 cap (zs.take 1) _ (by rw [List.length_take, HN.out]; omega) (show Arr (V.drewN mp) _ _ from (arr_only HA.out HO3.out HAN.out).take 1) (by omega)).mono ?_
  rintro e X ⟨rfl, hbk, _⟩
  have hbX : Below V.heap.size V X := ⟨hbk.os, hbk.tape, hbk.output, hbk.size, hbk.block⟩
  have HF4 := hide (HF3.out.only (Only.of_below (S := [g]) hbX) HNF.out)
  have HO4 := hide (HO3.out.trans (Only.of_below hbX))
  have HC4 := hide (HC3.out.below hbX HC3.out.lt)
  clear HC3 HF3 HO3 hbk hbX
  go_wp2_with fail
  refine (demand_err g _ _ 5 _ _ X HC4.out).mono ?_
  rintro e v ⟨rfl, hv⟩
  rw [hv]
  clear hv
  go_wp2_with fail
  go_end0
  exact ⟨_, 1, rfl, HC4.out, HF4.out, HO4.out, by omega⟩

set_option maxHeartbeats 8000000 in
theorem takeHead_highq (g F n cap b off : Nat) (zs : List Int) (w : World) (hc : Cur w g (.slice (some ⟨b, off, none⟩) n cap) 0 .nilIface) (hf : FRq w F 0 0 0 0 0 0 0 0 0 (.slice none 0 0) (.slice none 0 0)) (hn : zs.length = n) (ha : Arr w (some ⟨b, off, none⟩) zs) (hm : n ≤ 1048576) (hcap : n ≤ cap) (h20 : 20 ≤ n) (hbg : b ≠ g) (hbF : b ≠ F) (hFg : F ≠ g) (y0 : Int) (hy0 : y0 = tnum ((zs.drop 0).take 1)) (hb0 : 0 ≤ y0) (hb1 : y0 ≤ 255) (hv : (y0 / 16 == 4) = true) (hs : (20 : Int) ≤ y0 % 16 * 4) (hs2 : decide (y0 % 16 * 4 ≤ (n : Int)) = false) :
    Calls Tryz.prog 50 #[.pointer (some ⟨F, 0, none⟩), .pointer (some ⟨g, 0, none⟩)] w fun e w' => ∃ (K p : Nat), e = .returned (.tuple #[]) ∧ Cur w' g (.slice (some ⟨b, off, none⟩) n cap) p (wErr 5) ∧ FRq w' F y0 0 0 0 0 0 0 0 0 (.slice (some ⟨K, 0, none⟩) 0 0) (.slice none 0 0) ∧ Only [g, F] w w' ∧ p ≤ n := by
  have HA := hide ha
  have HN := hide hn
  have HNE : Hid (some g ≠ some F) := hide (by intro e; cases e; exact hFg rfl)
  have HNF : Hid (F ∉ [g]) := hide (by simp [hFg])
  have HAN : Hid (∀ j, j < zs.length → ∃ b' off', (some ⟨b, off, none⟩ : Option Addr) = some ⟨b', off', none⟩ ∧ b' ∉ [g, F]) := hide (fun j hj => ⟨b, off, rfl, by simp [hbg, hbF]⟩)
  have h20' : (20 : Int) ≤ (n : Int) := by omega
  have HY0 := hide hy0
  clear ha hn hy0
  have CL := hide (left0_walkq g n cap (some ⟨b, off, none⟩) .nilIface w hc (by omega))
  have HC0 := hide hc
  have HF0 := hide hf
  clear hc hf
  go_enter Tryz.func50, Tryz.ntmps50
  go_wp2_with fail
  refine CL.out.mono ?_
  rintro e w1 ⟨rfl, m, rfl⟩
  have HC := hide (Cur.drewN (w := w) HC0.out m)
  have HF := hide (FRq.drewN (w := w) HF0.out m)
  have HO : Hid (Only [g, F] w (w.drewN m)) := hide (only_drewNq w m)
  clear HC0 HF0 CL
  generalize w.drewN m = W0 at *
  go_wp2_with fail
  refine (demand_yes g 0 _ 2 W0 HC.out).mono ?_
  rintro e v ⟨rfl, hv⟩
  rw [hv]
  clear hv
  go_wp2_with fail
  have t1 := tk1q g 0 n cap b off zs W0 HC.out (by omega) (by omega) hcap HN.out (arr_only HA.out HO.out HAN.out) hbg
  rw [show tnum ((zs.drop 0).take 1) = y0 from HY0.out.symm] at t1
  have T1 := hide t1
  clear t1
  refine T1.out.mono ?_
  rintro e u50 ⟨rfl, hc2, hg2⟩
  have HF2 := hide (HF.out.only (Only.of_some hg2) HNF.out)
  have HO2 := hide (HO.out.trans (only_gq (F := F) hg2))
  obtain ⟨f0, f1, f2, f3, f4, f5, f6, f7, f8, f9, f10, ff⟩ := HF2.out.cells
  have HF3 := hide (HF2.out.set0 y0)
  have HC3 : Hid (Cur (u50.setCell ⟨F, 0, none⟩ (.int .i64 y0)) g (.slice (some ⟨b, off, none⟩) n cap) 1 .nilIface) := hide (hc2.kept (grown_cell u50 F 0 _) HNE.out)
  have HO3 := hide (HO2.out.trans (only_cellq (g := g) 0 (.int .i64 y0)))
  clear T1 hc2 hg2 HC HF HO HF2 HO2
  go_wp2_with fail
  generalize hV : u50.setCell ⟨F, 0, none⟩ (.int .i64 y0) = V50 at *
  clear hV f0 f1 f2 f3 f4 f5 f6 f7 f8 f9 f10 ff
  have HC := HC3
  have HF := HF3
  have HO := HO3
  clear HC3 HF3 HO3
  obtain ⟨f0, f1, f2, f3, f4, f5, f6, f7, f8, f9, f10, ff⟩ := HF.out.cells
  refine (version_walk F y0 V50 f0).mono ?_
  rintro e v ⟨rfl, hv⟩
  rw [hv]
  clear hv f0 f1 f2 f3 f4 f5 f6 f7 f8 f9 f10 ff
  go_wp2_with fail
  refine (demand_yes g _ _ 4 V50 HC.out).mono ?_
  rintro e v ⟨rfl, hv⟩
  rw [hv]
  clear hv
  go_wp2_with fail
  have HC2 := hide (Cur.drew (w := V50) HC.out)
  have HF2 := hide (FRq.drew (w := V50) HF.out)
  have HO2 := hide (HO.out.trans (only_drewq V50))
  refine region_tail 14 (by kernel_rfl) (by kernel_rfl) ?_
  clear HC HF HO
  generalize V50.drew = VQ at *
  have HC := HC2
  have HF := HF2
  have HO := HO2
  clear HC2 HF2 HO2
  obtain ⟨f0, f1, f2, f3, f4, f5, f6, f7, f8, f9, f10, ff⟩ := HF.out.cells
  obtain ⟨c0, c1, c2, cf⟩ := HC.out.cells
  simp only [List.take_succ_cons, List.take_zero, List.drop_succ_cons, List.drop_zero]
  repeat (first | go_big_quiet_skip | (go_big_quiet_want; go_big_quiet_op; first | go_big_quiet_on | (apply Exists.intro; refine ⟨hsize_walk F y0 VQ f0, ?_⟩; go_big_quiet_on)))
  refine wpQuiet_nil ?_
  clear c0 c1 c2 cf f0 f1 f2 f3 f4 f5 f6 f7 f8 f9 f10 ff
  go_wp2_with fail
  refine (demand_no g _ _ 5 VQ HC.out).mono ?_
  rintro e V51 ⟨rfl, hc2, hg2⟩
  have HF2 := hide (HF.out.only (Only.of_some hg2) HNF.out)
  have HO2 := hide (HO.out.trans (only_gq (F := F) hg2))
  have HC2 := hide hc2
  clear hc2 hg2 HC HF HO
  have HC := HC2
  have HF := HF2
  have HO := HO2
  clear HC2 HF2 HO2
  go_wp2_with fail
  refine (take_err g _ n cap (some ⟨b, off, none⟩) 5 1 V51 HC.out (by omega) (by omega) (by omega) (by omega)).mono ?_
  rintro e u60 ⟨rfl, m60, rfl⟩
  have HF2 := hide (FRq.drewN (w := V51) HF.out m60)
  have HO2 := hide (HO.out.trans (only_drewNq V51 m60))
  have HC2 := hide (Cur.drewN (w := V51) HC.out m60)
  generalize V51.drewN m60 = U60 at *
  obtain ⟨f0, f1, f2, f3, f4, f5, f6, f7, f8, f9, f10, ff⟩ := HF2.out.cells
  have HF3 := hide (HF2.out.set1 0)
  have HC3 := hide (HC2.out.kept (grown_cell U60 F 1 (.int .i64 0)) HNE.out)
  have HO3 := hide (HO2.out.trans (only_cellq (g := g) 1 (.int .i64 0)))
  clear HC HF HO HF2 HO2 HC2
  go_wp2_with fail
  generalize hV : U60.setCell ⟨F, 1, none⟩ (.int .i64 0) = V60 at *
  clear hV f0 f1 f2 f3 f4 f5 f6 f7 f8 f9 f10 ff
  have HC := HC3
  have HF := HF3
  have HO := HO3
  clear HC3 HF3 HO3
  refine (take_err g _ n cap (some ⟨b, off, none⟩) 5 2 V60 HC.out (by omega) (by omega) (by omega) (by omega)).mono ?_
  rintro e u61 ⟨rfl, m61, rfl⟩
  have HF2 := hide (FRq.drewN (w := V60) HF.out m61)
  have HO2 := hide (HO.out.trans (only_drewNq V60 m61))
  have HC2 := hide (Cur.drewN (w := V60) HC.out m61)
  generalize V60.drewN m61 = U61 at *
  obtain ⟨f0, f1, f2, f3, f4, f5, f6, f7, f8, f9, f10, ff⟩ := HF2.out.cells
  have HF3 := hide (HF2.out.set2 0)
  have HC3 := hide (HC2.out.kept (grown_cell U61 F 2 (.int .i64 0)) HNE.out)
  have HO3 := hide (HO2.out.trans (only_cellq (g := g) 2 (.int .i64 0)))
  clear HC HF HO HF2 HO2 HC2
  go_wp2_with fail
  generalize hV : U61.setCell ⟨F, 2, none⟩ (.int .i64 0) = V61 at *
  clear hV f0 f1 f2 f3 f4 f5 f6 f7 f8 f9 f10 ff
  have HC := HC3
  have HF := HF3
  have HO := HO3
  clear HC3 HF3 HO3
  refine (take_err g _ n cap (some ⟨b, off, none⟩) 5 2 V61 HC.out (by omega) (by omega) (by omega) (by omega)).mono ?_
  rintro e u62 ⟨rfl, m62, rfl⟩
  have HF2 := hide (FRq.drewN (w := V61) HF.out m62)
  have HO2 := hide (HO.out.trans (only_drewNq V61 m62))
  have HC2 := hide (Cur.drewN (w := V61) HC.out m62)
  generalize V61.drewN m62 = U62 at *
  obtain ⟨f0, f1, f2, f3, f4, f5, f6, f7, f8, f9, f10, ff⟩ := HF2.out.cells
  have HF3 := hide (HF2.out.set3 0)
  have HC3 := hide (HC2.out.kept (grown_cell U62 F 3 (.int .i64 0)) HNE.out)
  have HO3 := hide (HO2.out.trans (only_cellq (g := g) 3 (.int .i64 0)))
  clear HC HF HO HF2 HO2 HC2
  go_wp2_with fail
  generalize hV : U62.setCell ⟨F, 3, none⟩ (.int .i64 0) = V62 at *
  clear hV f0 f1 f2 f3 f4 f5 f6 f7 f8 f9 f10 ff
  have HC := HC3
  have HF := HF3
  have HO := HO3
  clear HC3 HF3 HO3
  refine (take_err g _ n cap (some ⟨b, off, none⟩) 5 2 V62 HC.out (by omega) (by omega) (by omega) (by omega)).mono ?_
  rintro e u63 ⟨rfl, m63, rfl⟩
  have HF2 := hide (FRq.drewN (w := V62) HF.out m63)
  have HO2 := hide (HO.out.trans (only_drewNq V62 m63))
  have HC2 := hide (Cur.drewN (w := V62) HC.out m63)
  generalize V62.drewN m63 = U63 at *
  obtain ⟨f0, f1, f2, f3, f4, f5, f6, f7, f8, f9, f10, ff⟩ := HF2.out.cells
  have HF3 := hide (HF2.out.set4 0)
  have HC3 := hide (HC2.out.kept (grown_cell U63 F 4 (.int .i64 0)) HNE.out)
  have HO3 := hide (HO2.out.trans (only_cellq (g := g) 4 (.int .i64 0)))
  clear HC HF HO HF2 HO2 HC2
  go_wp2_with fail
  generalize hV : U63.setCell ⟨F, 4, none⟩ (.int .i64 0) = V63 at *
  clear hV f0 f1 f2 f3 f4 f5 f6 f7 f8 f9 f10 ff
  have HC := HC3
  have HF := HF3
  have HO := HO3
  clear HC3 HF3 HO3
  refine (take_err g _ n cap (some ⟨b, off, none⟩) 5 1 V63 HC.out (by omega) (by omega) (by omega) (by omega)).mono ?_
  rintro e u64 ⟨rfl, m64, rfl⟩
  have HF2 := hide (FRq.drewN (w := V63) HF.out m64)
  have HO2 := hide (HO.out.trans (only_drewNq V63 m64))
  have HC2 := hide (Cur.drewN (w := V63) HC.out m64)
  generalize V63.drewN m64 = U64 at *
  obtain ⟨f0, f1, f2, f3, f4, f5, f6, f7, f8, f9, f10, ff⟩ := HF2.out.cells
  have HF3 := hide (HF2.out.set5 0)
  have HC3 := hide (HC2.out.kept (grown_cell U64 F 5 (.int .i64 0)) HNE.out)
  have HO3 := hide (HO2.out.trans (only_cellq (g := g) 5 (.int .i64 0)))
  clear HC HF HO HF2 HO2 HC2
  go_wp2_with fail
  generalize hV : U64.setCell ⟨F, 5, none⟩ (.int .i64 0) = V64 at *
  clear hV f0 f1 f2 f3 f4 f5 f6 f7 f8 f9 f10 ff
  have HC := HC3
  have HF := HF3
  have HO := HO3
  clear HC3 HF3 HO3
  refine (take_err g _ n cap (some ⟨b, off, none⟩) 5 1 V64 HC.out (by omega) (by omega) (by omega) (by omega)).mono ?_
  rintro e u65 ⟨rfl, m65, rfl⟩
  have HF2 := hide (FRq.drewN (w := V64) HF.out m65)
  have HO2 := hide (HO.out.trans (only_drewNq V64 m65))
  have HC2 := hide (Cur.drewN (w := V64) HC.out m65)
  generalize V64.drewN m65 = U65 at *
  obtain ⟨f0, f1, f2, f3, f4, f5, f6, f7, f8, f9, f10, ff⟩ := HF2.out.cells
  have HF3 := hide (HF2.out.set6 0)
  have HC3 := hide (HC2.out.kept (grown_cell U65 F 6 (.int .i64 0)) HNE.out)
  have HO3 := hide (HO2.out.trans (only_cellq (g := g) 6 (.int .i64 0)))
  clear HC HF HO HF2 HO2 HC2
  go_wp2_with fail
  generalize hV : U65.setCell ⟨F, 6, none⟩ (.int .i64 0) = V65 at *
  clear hV f0 f1 f2 f3 f4 f5 f6 f7 f8 f9 f10 ff
  have HC := HC3
  have HF := HF3
  have HO := HO3
  clear HC3 HF3 HO3
  refine (pass_err g _ n cap (some ⟨b, off, none⟩) 5 2 V65 HC.out (by omega) (by omega) (by omega) (by omega)).mono ?_
  rintro e u66 ⟨rfl, m66, rfl⟩
  have HF2 := hide (FRq.drewN (w := V65) HF.out m66)
  have HO2 := hide (HO.out.trans (only_drewNq V65 m66))
  have HC2 := hide (Cur.drewN (w := V65) HC.out m66)
  generalize V65.drewN m66 = V66 at *
  clear HC HF HO
  have HC := HC2
  have HF := HF2
  have HO := HO2
  clear HC2 HF2 HO2
  go_wp2_with fail
  refine (take_err g _ n cap (some ⟨b, off, none⟩) 5 4 V66 HC.out (by omega) (by omega) (by omega) (by omega)).mono ?_
  rintro e u67 ⟨rfl, m67, rfl⟩
  have HF2 := hide (FRq.drewN (w := V66) HF.out m67)
  have HO2 := hide (HO.out.trans (only_drewNq V66 m67))
  have HC2 := hide (Cur.drewN (w := V66) HC.out m67)
  generalize V66.drewN m67 = U67 at *
  obtain ⟨f0, f1, f2, f3, f4, f5, f6, f7, f8, f9, f10, ff⟩ := HF2.out.cells
  have HF3 := hide (HF2.out.set7 0)
  have HC3 := hide (HC2.out.kept (grown_cell U67 F 7 (.int .i64 0)) HNE.out)
  have HO3 := hide (HO2.out.trans (only_cellq (g := g) 7 (.int .i64 0)))
  clear HC HF HO HF2 HO2 HC2
  go_wp2_with fail
  generalize hV : U67.setCell ⟨F, 7, none⟩ (.int .i64 0) = V67 at *
  clear hV f0 f1 f2 f3 f4 f5 f6 f7 f8 f9 f10 ff
  have HC := HC3
  have HF := HF3
  have HO := HO3
  clear HC3 HF3 HO3
  refine (take_err g _ n cap (some ⟨b, off, none⟩) 5 4 V67 HC.out (by omega) (by omega) (by omega) (by omega)).mono ?_
  rintro e u68 ⟨rfl, m68, rfl⟩
  have HF2 := hide (FRq.drewN (w := V67) HF.out m68)
  have HO2 := hide (HO.out.trans (only_drewNq V67 m68))
  have HC2 := hide (Cur.drewN (w := V67) HC.out m68)
  generalize V67.drewN m68 = U68 at *
  obtain ⟨f0, f1, f2, f3, f4, f5, f6, f7, f8, f9, f10, ff⟩ := HF2.out.cells
  have HF3 := hide (HF2.out.set8 0)
  have HC3 := hide (HC2.out.kept (grown_cell U68 F 8 (.int .i64 0)) HNE.out)
  have HO3 := hide (HO2.out.trans (only_cellq (g := g) 8 (.int .i64 0)))
  clear HC HF HO HF2 HO2 HC2
  go_wp2_with fail
  generalize hV : U68.setCell ⟨F, 8, none⟩ (.int .i64 0) = V68 at *
  clear hV f0 f1 f2 f3 f4 f5 f6 f7 f8 f9 f10 ff
  have HC := HC3
  have HF := HF3
  have HO := HO3
  clear HC3 HF3 HO3
  obtain ⟨f0, f1, f2, f3, f4, f5, f6, f7, f8, f9, f10, ff⟩ := HF.out.cells
  refine (hsize_walk F y0 V68 f0).mono ?_
  rintro e v ⟨rfl, hv⟩
  rw [hv]
  clear hv f0 f1 f2 f3 f4 f5 f6 f7 f8 f9 f10 ff
  go_wp2_with fail
  refine (takeBytes_err g _ n cap (some ⟨b, off, none⟩) 5 _ V68 HC.out (by omega) (by omega) (by omega) (by omega)).mono ?_
  rintro e U ⟨rfl, hbU⟩
  have HF2 := hide (HF.out.only (Only.of_below (S := [g]) hbU) HNF.out)
  have HO2 := hide (HO.out.trans (Only.of_below hbU))
  have HC2 := hide (HC.out.below hbU HC.out.lt)
  clear HC HF HO hbU
  generalize V68.heap.size = K at *
  obtain ⟨f0, f1, f2, f3, f4, f5, f6, f7, f8, f9, f10, ff⟩ := HF2.out.cells
  have HF3 := hide (HF2.out.set9 (.slice (some ⟨K, 0, none⟩) 0 0))
  have HC3 := hide (HC2.out.kept (grown_cell U F 9 (.slice (some ⟨K, 0, none⟩) 0 0)) HNE.out)
  have HO3 := hide (HO2.out.trans (only_cellq (g := g) 9 (.slice (some ⟨K, 0, none⟩) 0 0)))
  clear HF2 HO2 HC2
  go_wp2_with fail
  generalize hV : U.setCell ⟨F, 9, none⟩ (.slice (some ⟨K, 0, none⟩) 0 0) = V at *
  clear hV f0 f1 f2 f3 f4 f5 f6 f7 f8 f9 f10 ff
  refine (passed_walk g 1 n cap b off (wErr 5) V HC3.out (by omega) (by omega)).mono ?_
  rintro e v ⟨rfl, mp, rfl⟩
  go_wp2_with fail
  refine (checksum_walk (some ⟨b, off, none⟩) 1 cap (zs.take 1) _ (by rw [List.length_take, HN.out]; omega) (show Arr (V.drewN mp) _ _ from (arr_only HA.out HO3.out HAN.out).take 1) (by omega)).mono ?_
  rintro e X ⟨rfl, hbk, _⟩
  have hbX : Below V.heap.size V X := ⟨hbk.os, hbk.tape, hbk.output, hbk.size, hbk.block⟩
  have HF4 := hide (HF3.out.only (Only.of_below (S := [g]) hbX) HNF.out)
  have HO4 := hide (HO3.out.trans (Only.of_below hbX))
  have HC4 := hide (HC3.out.below hbX HC3.out.lt)
  clear HC3 HF3 HO3 hbk hbX
  go_wp2_with fail
  refine (demand_err g _ _ 5 _ _ X HC4.out).mono ?_
  rintro e v ⟨rfl, hv⟩
  rw [hv]
  clear hv
  go_wp2_with fail
  go_end0
  exact ⟨_, 1, rfl, HC4.out, HF4.out, HO4.out, by omega⟩

set_option maxHeartbeats 8000000 in
theorem takeHead_longq (g F n cap b off : Nat) (zs : List Int) (w : World) (hc : Cur w g (.slice (some ⟨b, off, none⟩) n cap) 0 .nilIface) (hf : FRq w F 0 0 0 0 0 0 0 0 0 (.slice none 0 0) (.slice none 0 0)) (hn : zs.length = n) (ha : Arr w (some ⟨b, off, none⟩) zs) (hm : n ≤ 1048576) (hcap : n ≤ cap) (h20 : 20 ≤ n) (hbg : b ≠ g) (hbF : b ≠ F) (hFg : F ≠ g) (y0 : Int) (hy0 : y0 = tnum ((zs.drop 0).take 1)) (hb0 : 0 ≤ y0) (hb1 : y0 ≤ 255) (hv : (y0 / 16 == 4) = true) (hs : (20 : Int) ≤ y0 % 16 * 4) (hs2 : y0 % 16 * 4 ≤ (n : Int)) (y1 : Int) (hy1 : y1 = tnum ((zs.drop 1).take 1)) (y2 : Int) (hy2 : y2 = tnum ((zs.drop 2).take 2)) (y3 : Int) (hy3 : y3 = tnum ((zs.drop 4).take 2)) (y4 : Int) (hy4 : y4 = tnum ((zs.drop 6).take 2)) (y5 : Int) (hy5 : y5 = tnum ((zs.drop 8).take 1)) (y6 : Int) (hy6 : y6 = tnum ((zs.drop 9).take 1)) (y7 : Int) (hy7 : y7 = tnum ((zs.drop 12).take 4)) (y8 : Int) (hy8 : y8 = tnum ((zs.drop 16).take 4)) (ko : Nat) (hko : y0 % 16 * 4 - 20 = (ko : Int)) (E : Bool) (hE : (csum (zs.take (20 + ko)) == 0) = E) (ev : Value) (hev : (if E then Value.nilIface else wErr 3) = ev) :
    Calls Tryz.prog 50 #[.pointer (some ⟨F, 0, none⟩), .pointer (some ⟨g, 0, none⟩)] w fun e w' => ∃ (ao : Option Addr) (co : Nat), e = .returned (.tuple #[]) ∧ Cur w' g (.slice (some ⟨b, off, none⟩) n cap) (20 + ko) ev ∧ FRq w' F y0 y1 y2 y3 y4 y5 y6 y7 y8 (.slice ao ko co) (.slice none 0 0) ∧ OwnB w' w.heap.size (.slice ao ko co) ((zs.drop 20).take ko) ∧ Only [g, F] w w' := by
  have HA := hide ha
  have HN := hide hn
  have HNE : Hid (some g ≠ some F) := hide (by intro e; cases e; exact hFg rfl)
  have HNF : Hid (F ∉ [g]) := hide (by simp [hFg])
  have HAN : Hid (∀ j, j < zs.length → ∃ b' off', (some ⟨b, off, none⟩ : Option Addr) = some ⟨b', off', none⟩ ∧ b' ∉ [g, F]) := hide (fun j hj => ⟨b, off, rfl, by simp [hbg, hbF]⟩)
  have h20' : (20 : Int) ≤ (n : Int) := by omega
  have HY0 := hide hy0
  clear ha hn hy0
  have HY1 := hide hy1
  clear hy1
  have HY2 := hide hy2
  clear hy2
  have HY3 := hide hy3
  clear hy3
  have HY4 := hide hy4
  clear hy4
  have HY5 := hide hy5
  clear hy5
  have HY6 := hide hy6
  clear hy6
  have HY7 := hide hy7
  clear hy7
  have HY8 := hide hy8
  clear hy8
  have HKO := hide hko
  have HE := hide hE
  have HEV := hide hev
  clear hko hE hev
  have hFl := hf.lt
  have hgl := hc.lt
  have HKN : Hid (20 + ko ≤ n) := hide (by have := HKO.out; omega)
  have CL := hide (left0_walkq g n cap (some ⟨b, off, none⟩) .nilIface w hc (by omega))
  have HC0 := hide hc
  have HF0 := hide hf
  clear hc hf
  go_enter Tryz.func50, Tryz.ntmps50
  go_wp2_with fail
  refine CL.out.mono ?_
  rintro e w1 ⟨rfl, m, rfl⟩
  have HC := hide (Cur.drewN (w := w) HC0.out m)
  have HF := hide (FRq.drewN (w := w) HF0.out m)
  have HO : Hid (Only [g, F] w (w.drewN m)) := hide (only_drewNq w m)
  clear HC0 HF0 CL
  generalize w.drewN m = W0 at *
  go_wp2_with fail
  refine (demand_yes g 0 _ 2 W0 HC.out).mono ?_
  rintro e v ⟨rfl, hv⟩
  rw [hv]
  clear hv
  go_wp2_with fail
  have t1 := tk1q g 0 n cap b off zs W0 HC.out (by omega) (by omega) hcap HN.out (arr_only HA.out HO.out HAN.out) hbg
  rw [show tnum ((zs.drop 0).take 1) = y0 from HY0.out.symm] at t1
  have T1 := hide t1
  clear t1
  refine T1.out.mono ?_
  rintro e u50 ⟨rfl, hc2, hg2⟩
  have HF2 := hide (HF.out.only (Only.of_some hg2) HNF.out)
  have HO2 := hide (HO.out.trans (only_gq (F := F) hg2))
  obtain ⟨f0, f1, f2, f3, f4, f5, f6, f7, f8, f9, f10, ff⟩ := HF2.out.cells
  have HF3 := hide (HF2.out.set0 y0)
  have HC3 : Hid (Cur (u50.setCell ⟨F, 0, none⟩ (.int .i64 y0)) g (.slice (some ⟨b, off, none⟩) n cap) 1 .nilIface) := hide (hc2.kept (grown_cell u50 F 0 _) HNE.out)
  have HO3 := hide (HO2.out.trans (only_cellq (g := g) 0 (.int .i64 y0)))
  clear T1 hc2 hg2 HC HF HO HF2 HO2
  go_wp2_with fail
  generalize hV : u50.setCell ⟨F, 0, none⟩ (.int .i64 y0) = V50 at *
  clear hV f0 f1 f2 f3 f4 f5 f6 f7 f8 f9 f10 ff
  have HC := HC3
  have HF := HF3
  have HO := HO3
  clear HC3 HF3 HO3
  obtain ⟨f0, f1, f2, f3, f4, f5, f6, f7, f8, f9, f10, ff⟩ := HF.out.cells
  refine (version_walk F y0 V50 f0).mono ?_
  rintro e v ⟨rfl, hv⟩
  rw [hv]
  clear hv f0 f1 f2 f3 f4 f5 f6 f7 f8 f9 f10 ff
  go_wp2_with fail
  refine (demand_yes g _ _ 4 V50 HC.out).mono ?_
  rintro e v ⟨rfl, hv⟩
  rw [hv]
  clear hv
  go_wp2_with fail
  have HC2 := hide (Cur.drew (w := V50) HC.out)
  have HF2 := hide (FRq.drew (w := V50) HF.out)
  have HO2 := hide (HO.out.trans (only_drewq V50))
  refine region_tail 14 (by kernel_rfl) (by kernel_rfl) ?_
  clear HC HF HO
  generalize V50.drew = VQ at *
  have HC := HC2
  have HF := HF2
  have HO := HO2
  clear HC2 HF2 HO2
  obtain ⟨f0, f1, f2, f3, f4, f5, f6, f7, f8, f9, f10, ff⟩ := HF.out.cells
  obtain ⟨c0, c1, c2, cf⟩ := HC.out.cells
  simp only [List.take_succ_cons, List.take_zero, List.drop_succ_cons, List.drop_zero]
  repeat (first | go_big_quiet_skip | (go_big_quiet_want; go_big_quiet_op; first | go_big_quiet_on | (apply Exists.intro; refine ⟨hsize_walk F y0 VQ f0, ?_⟩; go_big_quiet_on)))
  refine wpQuiet_nil ?_
  clear c0 c1 c2 cf f0 f1 f2 f3 f4 f5 f6 f7 f8 f9 f10 ff
  go_wp2_with fail
  refine (demand_yes g _ _ 5 VQ HC.out).mono ?_
  rintro e v ⟨rfl, hv⟩
  rw [hv]
  clear hv
  go_wp2_with fail
  have t1 := tk1q g 1 n cap b off zs VQ HC.out (by omega) (by omega) hcap HN.out (arr_only HA.out HO.out HAN.out) hbg
  rw [show tnum ((zs.drop 1).take 1) = y1 from HY1.out.symm] at t1
  have T1 := hide t1
  clear t1
  refine T1.out.mono ?_
  rintro e u60 ⟨rfl, hc2, hg2⟩
  have HF2 := hide (HF.out.only (Only.of_some hg2) HNF.out)
  have HO2 := hide (HO.out.trans (only_gq (F := F) hg2))
  obtain ⟨f0, f1, f2, f3, f4, f5, f6, f7, f8, f9, f10, ff⟩ := HF2.out.cells
  have HF3 := hide (HF2.out.set1 y1)
  have HC3 : Hid (Cur (u60.setCell ⟨F, 1, none⟩ (.int .i64 y1)) g (.slice (some ⟨b, off, none⟩) n cap) 2 .nilIface) := hide (hc2.kept (grown_cell u60 F 1 _) HNE.out)
  have HO3 := hide (HO2.out.trans (only_cellq (g := g) 1 (.int .i64 y1)))
  clear T1 hc2 hg2 HC HF HO HF2 HO2
  go_wp2_with fail
  generalize hV : u60.setCell ⟨F, 1, none⟩ (.int .i64 y1) = V60 at *
  clear hV f0 f1 f2 f3 f4 f5 f6 f7 f8 f9 f10 ff
  have HC := HC3
  have HF := HF3
  have HO := HO3
  clear HC3 HF3 HO3
  have t1 := tk2 g 2 n cap b off zs V60 HC.out (by omega) (by omega) hcap HN.out (arr_only HA.out HO.out HAN.out) hbg
  rw [show tnum ((zs.drop 2).take 2) = y2 from HY2.out.symm] at t1
  have T1 := hide t1
  clear t1
  refine T1.out.mono ?_
  rintro e u61 ⟨rfl, hc2, hg2⟩
  have HF2 := hide (HF.out.only (Only.of_some hg2) HNF.out)
  have HO2 := hide (HO.out.trans (only_gq (F := F) hg2))
  obtain ⟨f0, f1, f2, f3, f4, f5, f6, f7, f8, f9, f10, ff⟩ := HF2.out.cells
  have HF3 := hide (HF2.out.set2 y2)
  have HC3 : Hid (Cur (u61.setCell ⟨F, 2, none⟩ (.int .i64 y2)) g (.slice (some ⟨b, off, none⟩) n cap) 4 .nilIface) := hide (hc2.kept (grown_cell u61 F 2 _) HNE.out)
  have HO3 := hide (HO2.out.trans (only_cellq (g := g) 2 (.int .i64 y2)))
  clear T1 hc2 hg2 HC HF HO HF2 HO2
  go_wp2_with fail
  generalize hV : u61.setCell ⟨F, 2, none⟩ (.int .i64 y2) = V61 at *
  clear hV f0 f1 f2 f3 f4 f5 f6 f7 f8 f9 f10 ff
  have HC := HC3
  have HF := HF3
  have HO := HO3
  clear HC3 HF3 HO3
  have t1 := tk2 g 4 n cap b off zs V61 HC.out (by omega) (by omega) hcap HN.out (arr_only HA.out HO.out HAN.out) hbg
  rw [show tnum ((zs.drop 4).take 2) = y3 from HY3.out.symm] at t1
  have T1 := hide t1
  clear t1
  refine T1.out.mono ?_
  rintro e u62 ⟨rfl, hc2, hg2⟩
  have HF2 := hide (HF.out.only (Only.of_some hg2) HNF.out)
  have HO2 := hide (HO.out.trans (only_gq (F := F) hg2))
  obtain ⟨f0, f1, f2, f3, f4, f5, f6, f7, f8, f9, f10, ff⟩ := HF2.out.cells
  have HF3 := hide (HF2.out.set3 y3)
  have HC3 : Hid (Cur (u62.setCell ⟨F, 3, none⟩ (.int .i64 y3)) g (.slice (some ⟨b, off, none⟩) n cap) 6 .nilIface) := hide (hc2.kept (grown_cell u62 F 3 _) HNE.out)
  have HO3 := hide (HO2.out.trans (only_cellq (g := g) 3 (.int .i64 y3)))
  clear T1 hc2 hg2 HC HF HO HF2 HO2
  go_wp2_with fail
  generalize hV : u62.setCell ⟨F, 3, none⟩ (.int .i64 y3) = V62 at *
  clear hV f0 f1 f2 f3 f4 f5 f6 f7 f8 f9 f10 ff
  have HC := HC3
  have HF := HF3
  have HO := HO3
  clear HC3 HF3 HO3
  have t1 := tk2 g 6 n cap b off zs V62 HC.out (by omega) (by omega) hcap HN.out (arr_only HA.out HO.out HAN.out) hbg
  rw [show tnum ((zs.drop 6).take 2) = y4 from HY4.out.symm] at t1
  have T1 := hide t1
  clear t1
  refine T1.out.mono ?_
  rintro e u63 ⟨rfl, hc2, hg2⟩
  have HF2 := hide (HF.out.only (Only.of_some hg2) HNF.out)
  have HO2 := hide (HO.out.trans (only_gq (F := F) hg2))
  obtain ⟨f0, f1, f2, f3, f4, f5, f6, f7, f8, f9, f10, ff⟩ := HF2.out.cells
  have HF3 := hide (HF2.out.set4 y4)
  have HC3 : Hid (Cur (u63.setCell ⟨F, 4, none⟩ (.int .i64 y4)) g (.slice (some ⟨b, off, none⟩) n cap) 8 .nilIface) := hide (hc2.kept (grown_cell u63 F 4 _) HNE.out)
  have HO3 := hide (HO2.out.trans (only_cellq (g := g) 4 (.int .i64 y4)))
  clear T1 hc2 hg2 HC HF HO HF2 HO2
  go_wp2_with fail
  generalize hV : u63.setCell ⟨F, 4, none⟩ (.int .i64 y4) = V63 at *
  clear hV f0 f1 f2 f3 f4 f5 f6 f7 f8 f9 f10 ff
  have HC := HC3
  have HF := HF3
  have HO := HO3
  clear HC3 HF3 HO3
  have t1 := tk1q g 8 n cap b off zs V63 HC.out (by omega) (by omega) hcap HN.out (arr_only HA.out HO.out HAN.out) hbg
  rw [show tnum ((zs.drop 8).take 1) = y5 from HY5.out.symm] at t1
  have T1 := hide t1
  clear t1
  refine T1.out.mono ?_
  rintro e u64 ⟨rfl, hc2, hg2⟩
  have HF2 := hide (HF.out.only (Only.of_some hg2) HNF.out)
  have HO2 := hide (HO.out.trans (only_gq (F := F) hg2))
  obtain ⟨f0, f1, f2, f3, f4, f5, f6, f7, f8, f9, f10, ff⟩ := HF2.out.cells
  have HF3 := hide (HF2.out.set5 y5)
  have HC3 : Hid (Cur (u64.setCell ⟨F, 5, none⟩ (.int .i64 y5)) g (.slice (some ⟨b, off, none⟩) n cap) 9 .nilIface) := hide (hc2.kept (grown_cell u64 F 5 _) HNE.out)
  have HO3 := hide (HO2.out.trans (only_cellq (g := g) 5 (.int .i64 y5)))
  clear T1 hc2 hg2 HC HF HO HF2 HO2
  go_wp2_with fail
  generalize hV : u64.setCell ⟨F, 5, none⟩ (.int .i64 y5) = V64 at *
  clear hV f0 f1 f2 f3 f4 f5 f6 f7 f8 f9 f10 ff
  have HC := HC3
  have HF := HF3
  have HO := HO3
  clear HC3 HF3 HO3
  have t1 := tk1q g 9 n cap b off zs V64 HC.out (by omega) (by omega) hcap HN.out (arr_only HA.out HO.out HAN.out) hbg
  rw [show tnum ((zs.drop 9).take 1) = y6 from HY6.out.symm] at t1
  have T1 := hide t1
  clear t1
  refine T1.out.mono ?_
  rintro e u65 ⟨rfl, hc2, hg2⟩
  have HF2 := hide (HF.out.only (Only.of_some hg2) HNF.out)
  have HO2 := hide (HO.out.trans (only_gq (F := F) hg2))
  obtain ⟨f0, f1, f2, f3, f4, f5, f6, f7, f8, f9, f10, ff⟩ := HF2.out.cells
  have HF3 := hide (HF2.out.set6 y6)
  have HC3 : Hid (Cur (u65.setCell ⟨F, 6, none⟩ (.int .i64 y6)) g (.slice (some ⟨b, off, none⟩) n cap) 10 .nilIface) := hide (hc2.kept (grown_cell u65 F 6 _) HNE.out)
  have HO3 := hide (HO2.out.trans (only_cellq (g := g) 6 (.int .i64 y6)))
  clear T1 hc2 hg2 HC HF HO HF2 HO2
  go_wp2_with fail
  generalize hV : u65.setCell ⟨F, 6, none⟩ (.int .i64 y6) = V65 at *
  clear hV f0 f1 f2 f3 f4 f5 f6 f7 f8 f9 f10 ff
  have HC := HC3
  have HF := HF3
  have HO := HO3
  clear HC3 HF3 HO3
  have T1 := hide (ps2q g 10 n cap b off V65 HC.out (by omega) (by omega) hcap)
  refine T1.out.mono ?_
  rintro e V66 ⟨rfl, hc2, hg2⟩
  have HF2 := hide (HF.out.only (Only.of_some hg2) HNF.out)
  have HO2 := hide (HO.out.trans (only_gq (F := F) hg2))
  have HC2 : Hid (Cur V66 g (.slice (some ⟨b, off, none⟩) n cap) 12 .nilIface) := hide hc2
  clear T1 hc2 hg2 HC HF HO
  have HC := HC2
  have HF := HF2
  have HO := HO2
  clear HC2 HF2 HO2
  go_wp2_with fail
  have t1 := tk4 g 12 n cap b off zs V66 HC.out (by omega) (by omega) hcap HN.out (arr_only HA.out HO.out HAN.out) hbg
  rw [show tnum ((zs.drop 12).take 4) = y7 from HY7.out.symm] at t1
  have T1 := hide t1
  clear t1
  refine T1.out.mono ?_
  rintro e u67 ⟨rfl, hc2, hg2⟩
  have HF2 := hide (HF.out.only (Only.of_some hg2) HNF.out)
  have HO2 := hide (HO.out.trans (only_gq (F := F) hg2))
  obtain ⟨f0, f1, f2, f3, f4, f5, f6, f7, f8, f9, f10, ff⟩ := HF2.out.cells
  have HF3 := hide (HF2.out.set7 y7)
  have HC3 : Hid (Cur (u67.setCell ⟨F, 7, none⟩ (.int .i64 y7)) g (.slice (some ⟨b, off, none⟩) n cap) 16 .nilIface) := hide (hc2.kept (grown_cell u67 F 7 _) HNE.out)
  have HO3 := hide (HO2.out.trans (only_cellq (g := g) 7 (.int .i64 y7)))
  clear T1 hc2 hg2 HC HF HO HF2 HO2
  go_wp2_with fail
  generalize hV : u67.setCell ⟨F, 7, none⟩ (.int .i64 y7) = V67 at *
  clear hV f0 f1 f2 f3 f4 f5 f6 f7 f8 f9 f10 ff
  have HC := HC3
  have HF := HF3
  have HO := HO3
  clear HC3 HF3 HO3
  have t1 := tk4 g 16 n cap b off zs V67 HC.out (by omega) (by omega) hcap HN.out (arr_only HA.out HO.out HAN.out) hbg
  rw [show tnum ((zs.drop 16).take 4) = y8 from HY8.out.symm] at t1
  have T1 := hide t1
  clear t1
  refine T1.out.mono ?_
  rintro e u68 ⟨rfl, hc2, hg2⟩
  have HF2 := hide (HF.out.only (Only.of_some hg2) HNF.out)
  have HO2 := hide (HO.out.trans (only_gq (F := F) hg2))
  obtain ⟨f0, f1, f2, f3, f4, f5, f6, f7, f8, f9, f10, ff⟩ := HF2.out.cells
  have HF3 := hide (HF2.out.set8 y8)
  have HC3 : Hid (Cur (u68.setCell ⟨F, 8, none⟩ (.int .i64 y8)) g (.slice (some ⟨b, off, none⟩) n cap) 20 .nilIface) := hide (hc2.kept (grown_cell u68 F 8 _) HNE.out)
  have HO3 := hide (HO2.out.trans (only_cellq (g := g) 8 (.int .i64 y8)))
  clear T1 hc2 hg2 HC HF HO HF2 HO2
  go_wp2_with fail
  generalize hV : u68.setCell ⟨F, 8, none⟩ (.int .i64 y8) = V68 at *
  clear hV f0 f1 f2 f3 f4 f5 f6 f7 f8 f9 f10 ff
  have HC := HC3
  have HF := HF3
  have HO := HO3
  clear HC3 HF3 HO3
  obtain ⟨f0, f1, f2, f3, f4, f5, f6, f7, f8, f9, f10, ff⟩ := HF.out.cells
  refine (hsize_walk F y0 V68 f0).mono ?_
  rintro e v ⟨rfl, hv⟩
  rw [hv]
  clear hv f0 f1 f2 f3 f4 f5 f6 f7 f8 f9 f10 ff
  have hks := HKO.out
  go_wp2_with fail
  have tb := takeBytes_anyq g 20 n cap b off ko zs V68 HC.out (by omega) HKN.out hcap HN.out (arr_only HA.out HO.out HAN.out) hbg
  have TB := hide tb
  clear tb hks
  refine TB.out.mono ?_
  rintro e U ⟨vv, rfl, hO, hc2, hg2⟩
  have hO' := hO.mono HO.out.size
  clear hO
  have HOW := hide hO'
  clear hO'
  obtain ⟨ao, co, rfl, _⟩ := own_slice HOW.out
  have HLO : Hid (((zs.drop 20).take ko).length = ko) := hide (by rw [List.length_take, List.length_drop, HN.out]; have := HKN.out; omega)
  rw [HLO.out] at HOW ⊢
  have HF2 := hide (HF.out.only (Only.of_some hg2) HNF.out)
  have HO2 := hide (HO.out.trans (only_gq (F := F) hg2))
  obtain ⟨f0, f1, f2, f3, f4, f5, f6, f7, f8, f9, f10, ff⟩ := HF2.out.cells
  have HF3 := hide (HF2.out.set9 (.slice ao ko co))
  have HC3 := hide (hc2.kept (grown_cell U F 9 (.slice ao ko co)) HNE.out)
  have HO3 := hide (HO2.out.trans (only_cellq (g := g) 9 (.slice ao ko co)))
  have HOW3 := hide (HOW.out.setBelow (a := ⟨F, 9, none⟩) hFl (.slice ao ko co))
  clear TB hc2 hg2 HC HF HO HF2 HO2 HOW
  go_wp2_with fail
  generalize hV : U.setCell ⟨F, 9, none⟩ (.slice ao ko co) = V at *
  clear hV f0 f1 f2 f3 f4 f5 f6 f7 f8 f9 f10 ff
  refine (passed_walk g (20 + ko) n cap b off .nilIface V HC3.out (by have := HKN.out; omega) (by omega)).mono ?_
  rintro e v ⟨rfl, mp, rfl⟩
  have hk := checksum_walk (some ⟨b, off, none⟩) (20 + ko) cap (zs.take (20 + ko)) (V.drewN mp) (by rw [List.length_take, HN.out]; have := HKN.out; omega) (show Arr (V.drewN mp) _ _ from (arr_only HA.out HO3.out HAN.out).take (20 + ko)) (by have := HKN.out; omega)
  have HLT : Hid ((zs.take (20 + ko)).length = 20 + ko) := hide (by rw [List.length_take, HN.out]; have := HKN.out; omega)
  have CK : Hid (Calls Tryz.prog 43 #[.slice (some ⟨b, off, none⟩) (20 + ko) cap] (V.drewN mp) fun e w' => e = .returned (.int .i64 (csum (zs.take (20 + ko)))) ∧ Below (V.drewN mp).heap.size (V.drewN mp) w') := hide (hk.mono (by rintro e w' ⟨rfl, hb, _⟩; refine ⟨?_, hb⟩; unfold csum; rw [HLT.out]))
  clear hk
  generalize csum (zs.take (20 + ko)) = cs at *
  go_wp2_with fail
  refine CK.out.mono ?_
  rintro e X ⟨rfl, hbk⟩
  have hbX : Below V.heap.size V X := ⟨hbk.os, hbk.tape, hbk.output, hbk.size, hbk.block⟩
  have HF4 := hide (HF3.out.only (Only.of_below (S := [g]) hbX) HNF.out)
  have HO4 := hide (HO3.out.trans (Only.of_below hbX))
  have HC4 := hide (HC3.out.below hbX HC3.out.lt)
  have HOW4 := hide (HOW3.out.next hbX)
  clear HC3 HF3 HO3 HOW3 hbk hbX CK
  have hcs := HE.out
  go_wp2_with fail
  have cd := demand_ifq g _ _ 3 E X HC4.out
  rw [HEV.out] at cd
  have CD := hide cd
  clear cd
  refine CD.out.mono ?_
  rintro e Z ⟨rfl, hc5, hg5⟩
  have HC5 := hide hc5
  have HF5 := hide (HF4.out.only (Only.of_some hg5) HNF.out)
  have HO5 := hide (HO4.out.trans (only_gq (F := F) hg5))
  have HOW5 := hide (HOW4.out.only (Only.of_some hg5) (fun b hb => by have := HOW4.out.ge b hb; simp; omega))
  clear hc5 hg5 HC4 HF4 HO4 HOW4 hcs CD
  go_wp2_with fail
  go_end0
  exact ⟨ao, co, rfl, HC5.out, HF5.out, HOW5.out, HO5.out⟩
set_option maxRecDepth 100000
theorem tnum_at' (zs : List Int) (p : Nat) (h : p < zs.length) : tnum ((zs.drop p).take 1) = zs.getD p 0 := by
  have e : (zs.drop p).take 1 = [zs.getD p 0] := by
    rw [List.drop_eq_getElem_cons h, List.take_succ_cons, List.take_zero, List.getD_eq_getElem?_getD, List.getElem?_eq_getElem h]
    rfl
  rw [e]
  simp [tnum]
set_option maxHeartbeats 2000000 in
/-- ReadQuote of the program. -/
theorem implReadQuote (zs : List Int) : ReadQuoteP 13 ErrT zs (rqI zs (zs.getD 9 0)) (rqI zs (tnum ((zs.drop 12).take 4))) (rqI zs (tnum ((zs.drop 16).take 4))) (rqI zs (tnum ((zs.drop 4).take 2))) (rqI zs (tnum ((zs.drop (rqS zs)).take 2))) (rqI zs (tnum ((zs.drop (rqS zs + 2)).take 2))) (rqI zs (tnum ((zs.drop (rqS zs + 4)).take 4))) (rqC zs) := by
  intro a n cap W hn ha hcap hm he
  have bad : ∀ q : Int, rqC zs = q → ¬ q = 0 → ∀ e w', e = Ending.returned (.tuple #[.agg #[.int .i64 0, .int .i64 0, .int .i64 0, .int .i64 0, .int .i64 0, .int .i64 0, .int .i64 0], .int .i64 q]) ∧ Below W.heap.size W w' → e = .returned (.tuple #[.agg #[.int .i64 (rqI zs (zs.getD 9 0)), .int .i64 (rqI zs (tnum ((zs.drop 12).take 4))), .int .i64 (rqI zs (tnum ((zs.drop 16).take 4))), .int .i64 (rqI zs (tnum ((zs.drop 4).take 2))), .int .i64 (rqI zs (tnum ((zs.drop (rqS zs)).take 2))), .int .i64 (rqI zs (tnum ((zs.drop (rqS zs + 2)).take 2))), .int .i64 (rqI zs (tnum ((zs.drop (rqS zs + 4)).take 4)))], .int .i64 (rqC zs)]) ∧ Below W.heap.size W w' := by
    rintro q hq h0 e w' ⟨rfl, hb⟩
    have e0 : ∀ x, rqI zs x = 0 := fun x => by unfold rqI; rw [if_neg (by rw [hq]; exact h0)]
    exact ⟨by rw [e0, e0, e0, e0, e0, e0, e0, hq], hb⟩
  have hne : W.heap.size + 2 ≠ W.heap.size + 1 := by omega
  by_cases h20 : n < 20
  · have hC : rqC zs = 2 := by
      have hr : rhC zs = 2 := by unfold rhC; rw [hn, if_pos h20]
      unfold rqC
      rw [hr, if_pos (by decide)]
    refine (implQuote_bad a n cap 2 W hm (by decide) he (fun V hc hf hb => ?_)).mono (bad 2 hC (by decide))
    refine (takeHead_shortq (W.heap.size + 1) (W.heap.size + 2) n cap a V hc hf hm h20 hne).mono ?_
    rintro e w' ⟨K, p, rfl, h1, h2, h3, h4⟩
    exact ⟨p, _, _, _, _, _, _, _, _, _, _, rfl, h1, h2, h3, h4⟩
  obtain ⟨b, off, ea, hbl, _⟩ := ha.2 0 (by omega)
  subst ea
  have hbg : b ≠ W.heap.size + 1 := by omega
  have hbF : b ≠ W.heap.size + 2 := by omega
  have y0e : zs.getD 0 0 = tnum ((zs.drop 0).take 1) := (tnum_at' zs 0 (by omega)).symm
  have hb0 := getD_bd ha.1 0
  by_cases hv : zs.getD 0 0 / 16 = 4
  · have hvb : (zs.getD 0 0 / 16 == 4) = true := beq_iff_eq.2 hv
    by_cases hs : (20 : Int) ≤ zs.getD 0 0 % 16 * 4
    · by_cases hs2 : zs.getD 0 0 % 16 * 4 ≤ (n : Int)
      · have hko : zs.getD 0 0 % 16 * 4 - 20 = (((zs.getD 0 0 % 16 * 4 - 20).toNat : Nat) : Int) := by omega
        generalize (zs.getD 0 0 % 16 * 4 - 20).toNat = ko at hko
        have hS : (ihl zs).toNat = 20 + ko := by unfold ihl; omega
        have hP : 20 + ko ≤ n := by omega
        have hr : rhC zs = if csum (zs.take (20 + ko)) ≠ 0 then 3 else 0 := by
          unfold rhC
          rw [hn, if_neg h20, if_neg (by simpa using hv), if_neg (by unfold ihl; omega), hS]
        have long := fun (E : Bool) (hE : (csum (zs.take (20 + ko)) == 0) = E) (ev : Value) (hev : (if E then Value.nilIface else wErr 3) = ev) (V : World) (hc : Cur V (W.heap.size + 1) (.slice (some ⟨b, off, none⟩) n cap) 0 .nilIface) (hf : FRq V (W.heap.size + 2) 0 0 0 0 0 0 0 0 0 (.slice none 0 0) (.slice none 0 0)) (hb : Below W.heap.size W V) =>
          takeHead_longq (W.heap.size + 1) (W.heap.size + 2) n cap b off zs V hc hf hn (ha.below hb (Nat.le_refl _)) hm hcap (by omega) hbg hbF hne _ y0e hb0.1 hb0.2 hvb hs hs2 _ rfl _ rfl _ rfl _ rfl _ rfl _ rfl _ rfl _ rfl ko hko E hE ev hev
        by_cases hcs : csum (zs.take (20 + ko)) = 0
        · have hE := long true (beq_iff_eq.2 hcs) .nilIface rfl
          have hr0 : rhC zs = 0 := by rw [hr, if_neg (by simpa using hcs)]
          have hi : ihl zs = ((20 + ko : Nat) : Int) := by unfold ihl; omega
          have hT : ∀ V, Cur V (W.heap.size + 1) (.slice (some ⟨b, off, none⟩) n cap) 0 .nilIface → FRq V (W.heap.size + 2) 0 0 0 0 0 0 0 0 0 (.slice none 0 0) (.slice none 0 0) → Below W.heap.size W V → Calls Tryz.prog 50 #[.pointer (some ⟨W.heap.size + 2, 0, none⟩), .pointer (some ⟨W.heap.size + 1, 0, none⟩)] V fun e w' => ∃ (y0 y1 y2 y4 y5 : Int) (vo : Value), e = .returned (.tuple #[]) ∧ Cur w' (W.heap.size + 1) (.slice (some ⟨b, off, none⟩) n cap) (20 + ko) .nilIface ∧ FRq w' (W.heap.size + 2) y0 y1 y2 (tnum ((zs.drop 4).take 2)) y4 y5 (tnum ((zs.drop 9).take 1)) (tnum ((zs.drop 12).take 4)) (tnum ((zs.drop 16).take 4)) vo (.slice none 0 0) ∧ Only [W.heap.size + 1, W.heap.size + 2] V w' := by
            intro V hc hf hb
            refine (hE V hc hf hb).mono ?_
            rintro e w' ⟨ao, co, rfl, h1, h2, _, h4⟩
            exact ⟨_, _, _, _, _, _, rfl, h1, h2, h4⟩
          by_cases g1 : n < 20 + ko + 2
          · exact (implQuote_s1 b off n cap zs _ _ _ _ W hm hn ha hcap (by omega) (20 + ko) hP he g1 hT).mono (bad 2 (by unfold rqC; rw [if_neg (by rw [hr0]; simp), if_pos (by omega)]) (by decide))
          by_cases g2 : n < 20 + ko + 2 + 2
          · exact (implQuote_s2 b off n cap zs _ _ _ _ W hm hn ha hcap (by omega) (20 + ko) hP he (by omega) g2 _ rfl hT).mono (bad 2 (by unfold rqC; rw [if_neg (by rw [hr0]; simp), if_pos (by omega)]) (by decide))
          by_cases g3 : n < 20 + ko + 4 + 4
          · exact (implQuote_s3 b off n cap zs _ _ _ _ W hm hn ha hcap (by omega) (20 + ko) hP he (by omega) g3 _ rfl _ rfl hT).mono (bad 2 (by unfold rqC; rw [if_neg (by rw [hr0]; simp), if_pos (by omega)]) (by decide))
          have hC : rqC zs = 0 := by unfold rqC; rw [if_neg (by rw [hr0]; simp), if_neg (by omega)]
          have e0 : ∀ x, rqI zs x = x := fun x => by unfold rqI; rw [if_pos hC]
          refine (implQuote_ok b off n cap zs _ _ _ _ W hm hn ha hcap (by omega) (20 + ko) hP (by omega) _ rfl _ rfl _ rfl hT).mono ?_
          rintro e w' ⟨rfl, hb⟩
          refine ⟨?_, hb⟩
          rw [e0, e0, e0, e0, e0, e0, e0, hC, show rqS zs = 20 + ko from hS, tnum_at' zs 9 (by omega)]
        · have hE := long false (by simpa using hcs) (wErr 3) rfl
          have hr3 : rhC zs = 3 := by rw [hr, if_pos hcs]
          refine (implQuote_bad (some ⟨b, off, none⟩) n cap 3 W hm (by decide) he (fun V hc hf hb => ?_)).mono (bad 3 (by unfold rqC; rw [hr3, if_pos (by decide)]) (by decide))
          refine (hE V hc hf hb).mono ?_
          rintro e w' ⟨ao, co, rfl, h1, h2, _, h4⟩
          exact ⟨_, _, _, _, _, _, _, _, _, _, _, rfl, h1, h2, h4, hP⟩
      · have hr : rhC zs = 5 := by unfold rhC; rw [hn, if_neg h20, if_neg (by simpa using hv), if_pos (by unfold ihl; omega)]
        refine (implQuote_bad (some ⟨b, off, none⟩) n cap 5 W hm (by decide) he (fun V hc hf hb => ?_)).mono (bad 5 (by unfold rqC; rw [hr, if_pos (by decide)]) (by decide))
        refine (takeHead_highq (W.heap.size + 1) (W.heap.size + 2) n cap b off zs V hc hf hn (ha.below hb (Nat.le_refl _)) hm hcap (by omega) hbg hbF hne _ y0e hb0.1 hb0.2 hvb hs (decide_eq_false hs2)).mono ?_
        rintro e w' ⟨K, p, rfl, h1, h2, h3, h4⟩
        exact ⟨p, _, _, _, _, _, _, _, _, _, _, rfl, h1, h2, h3, h4⟩
    · have hr : rhC zs = 5 := by unfold rhC; rw [hn, if_neg h20, if_neg (by simpa using hv), if_pos (by unfold ihl; omega)]
      refine (implQuote_bad (some ⟨b, off, none⟩) n cap 5 W hm (by decide) he (fun V hc hf hb => ?_)).mono (bad 5 (by unfold rqC; rw [hr, if_pos (by decide)]) (by decide))
      refine (takeHead_lowq (W.heap.size + 1) (W.heap.size + 2) n cap b off zs V hc hf hn (ha.below hb (Nat.le_refl _)) hm hcap (by omega) hbg hbF hne _ y0e hb0.1 hb0.2 hvb (decide_eq_false hs)).mono ?_
      rintro e w' ⟨K, p, rfl, h1, h2, h3, h4⟩
      exact ⟨p, _, _, _, _, _, _, _, _, _, _, rfl, h1, h2, h3, h4⟩
  · have hr : rhC zs = 4 := by unfold rhC; rw [hn, if_neg h20, if_pos hv]
    refine (implQuote_bad (some ⟨b, off, none⟩) n cap 4 W hm (by decide) he (fun V hc hf hb => ?_)).mono (bad 4 (by unfold rqC; rw [hr, if_pos (by decide)]) (by decide))
    refine (takeHead_versionq (W.heap.size + 1) (W.heap.size + 2) n cap b off zs V hc hf hn (ha.below hb (Nat.le_refl _)) hm hcap (by omega) hbg hbF hne _ y0e hb0.1 hb0.2 (by simpa using hv)).mono ?_
    rintro e w' ⟨K, p, rfl, h1, h2, h3, h4⟩
    exact ⟨p, _, _, _, _, _, _, _, _, _, _, rfl, h1, h2, h3, h4⟩
set_option maxRecDepth 100000
/-- Two bytes of a number changed: its sum. -/
theorem psum_set (zs : List Int) (k : Nat) (a b : Int) (hk : 2 * k + 1 < zs.length) : ∀ m : Nat, psum ((zs.set (2 * k) a).set (2 * k + 1) b) m = psum zs m + (if k < m then (a - zs.getD (2 * k) 0) * 256 + (b - zs.getD (2 * k + 1) 0) else 0)
  | 0 => by simp [psum]
  | m + 1 => by
    have ih := psum_set zs k a b hk m
    rw [psum, psum, ih]
    have g : ∀ j, ((zs.set (2 * k) a).set (2 * k + 1) b).getD j 0 = if j = 2 * k + 1 then b else if j = 2 * k then a else zs.getD j 0 := by
      intro j
      rw [List.getD_eq_getElem?_getD, List.getElem?_set, List.getElem?_set]
      by_cases h1 : j = 2 * k + 1
      · subst h1; rw [if_pos rfl, if_pos rfl, if_pos (by rw [List.length_set]; omega)]; rfl
      · rw [if_neg (fun e => h1 e.symm), if_neg h1]
        by_cases h2 : j = 2 * k
        · subst h2; rw [if_pos rfl, if_pos rfl, if_pos (by omega)]; rfl
        · rw [if_neg (fun e => h2 e.symm), if_neg h2, List.getD_eq_getElem?_getD]
    rw [g, g]
    by_cases hm : m = k
    · subst hm
      (repeat' split) <;> omega
    · (repeat' split) <;> omega
/-- What counts as a list's sum: its checksum, or 65535 in the place of 0. -/
theorem csum_back (zs : List Int) (k : Nat) (c : Int) (hz : ∀ z ∈ zs, 0 ≤ z ∧ z ≤ 255) (hk : 2 * k + 1 < zs.length) (h0 : zs.getD (2 * k) 0 = 0) (h1 : zs.getD (2 * k + 1) 0 = 0) (hc : c = csum zs ∨ (csum zs = 0 ∧ c = 65535)) : csum ((zs.set (2 * k) (c / 256)).set (2 * k + 1) (c % 256)) = 0 := by
  have hs := psum_set zs k (c / 256) (c % 256) hk ((zs.length + 1) / 2)
  rw [h0, h1, if_pos (by omega)] at hs
  have hb := psum_bd hz ((zs.length + 1) / 2)
  have hf := fold_bd _ hb.1
  unfold csum at hc ⊢
  rw [List.length_set, List.length_set, hs]
  generalize psum zs ((zs.length + 1) / 2) = S at *
  have e : S + ((c / 256 - 0) * 256 + (c % 256 - 0)) = S + c := by omega
  rw [e, fold_add S c hb.1 (by omega) (by omega)]
  split <;> omega
theorem tnum_p2 (v : Int) (h0 : 0 ≤ v) (h1 : v ≤ 65535) : tnum (putL v 2) = v := by
  unfold putL byteOf
  simp [tnum, List.range_succ]
  omega
theorem tnum_p4 (v : Int) (h0 : 0 ≤ v) (h1 : v ≤ 4294967295) : tnum (putL v 4) = v := by
  unfold putL byteOf
  simp [tnum, List.range_succ]
  omega
/-- A stretch that two settings do not meet. -/
theorem part_set2 (zs : List Int) (i j p k : Nat) (a b : Int) (hi : p + k ≤ i ∨ i < p) (hj : p + k ≤ j ∨ j < p) : (((zs.set i a).set j b).drop p).take k = (zs.drop p).take k := by
  apply List.ext_getElem?
  intro m
  by_cases hm : m < k
  · rw [List.getElem?_take_of_lt hm, List.getElem?_take_of_lt hm, List.getElem?_drop, List.getElem?_drop, List.getElem?_set_ne (by omega), List.getElem?_set_ne (by omega)]
  · rw [List.getElem?_eq_none (by rw [List.length_take]; omega), List.getElem?_eq_none (by rw [List.length_take]; omega)]
theorem drop_set2 (zs : List Int) (i j p : Nat) (a b : Int) (hi : i < p) (hj : j < p) : ((zs.set i a).set j b).drop p = zs.drop p := by
  apply List.ext_getElem?
  intro m
  rw [List.getElem?_drop, List.getElem?_drop, List.getElem?_set_ne (by omega), List.getElem?_set_ne (by omega)]
/-- The stretch at its place in parts that stand one behind the other. -/
theorem part_at (xs ys zs : List Int) (p k : Nat) (hp : xs.length = p) (hk : ys.length = k) : ((xs ++ (ys ++ zs)).drop p).take k = ys := by
  subst hp hk
  rw [List.drop_left, List.take_left]

/-- A valid message comes back from its bytes. -/
theorem icmp_back (t c r : Int) (z : List Int) (hz : ∀ x ∈ z, 0 ≤ x ∧ x ≤ 255) (h : icC t c r z.length = 0) : idC (icL t c r z) = 0 ∧ idT (icL t c r z) = t ∧ idK (icL t c r z) = c ∧ idR (icL t c r z) = r ∧ idB (icL t c r z) = z := by
  have hok : icOK t c r = true := by
    unfold icC at h
    split at h
    · assumption
    · cases h
  have hn : z.length ≤ 65000 := by
    unfold icC at h
    rw [hok, if_pos rfl] at h
    split at h
    · cases h
    · omega
  have hok2 := hok
  unfold icOK at hok2
  simp only [Bool.and_eq_true] at hok2
  have ht := inB_iff.1 hok2.1.1
  have hc := inB_iff.1 hok2.1.2
  have hr := inB_iff.1 hok2.2
  have eL : icL t c r z = ((icH t c r z).set 2 (csum (icH t c r z) / 256)).set 3 (csum (icH t c r z) % 256) := by unfold icL; rw [if_pos h]
  have hl := icH_len t c r z
  have hH : icH t c r z = [t, c, 0, 0] ++ (putL r 4 ++ z) := by unfold icH; rw [List.append_assoc]
  have hb : ∀ x ∈ icH t c r z, 0 ≤ x ∧ x ≤ 255 := by
    intro x hx
    rw [hH] at hx
    simp only [List.mem_append, List.mem_cons, List.not_mem_nil, or_false] at hx
    rcases hx with (hx | hx | hx | hx) | hx | hx
    · omega
    · omega
    · omega
    · omega
    · exact putL_bd _ _ x hx
    · exact hz x hx
  have g2 : (icH t c r z).getD (2 * 1) 0 = 0 := by rw [hH]; rfl
  have g3 : (icH t c r z).getD (2 * 1 + 1) 0 = 0 := by rw [hH]; rfl
  have hS : csum (icL t c r z) = 0 := by rw [eL]; exact csum_back _ 1 _ hb (by omega) g2 g3 (.inl rfl)
  have hL : (icL t c r z).length = 8 + z.length := by rw [eL, List.length_set, List.length_set, hl]
  have hC : idC (icL t c r z) = 0 := by unfold idC; rw [hL, if_neg (by omega), if_neg (by omega), hS, if_pos rfl]
  obtain ⟨e0, e1, e2, e3⟩ := id_yes hC
  have a4 : ((icL t c r z).drop 4).take 4 = putL r 4 := by
    rw [eL, part_set2 _ 2 3 4 4 _ _ (by omega) (by omega), hH]
    exact part_at _ _ _ 4 4 rfl (putL_len _ _)
  have a8 : (icL t c r z).drop 8 = z := by
    rw [eL, drop_set2 _ 2 3 8 _ _ (by omega) (by omega), hH, ← List.append_assoc]
    exact List.drop_left' (by simp [putL_len])
  have a0 : (icL t c r z).getD 0 0 = t := by rw [eL, hH]; rfl
  have a1 : (icL t c r z).getD 1 0 = c := by rw [eL, hH]; rfl
  rw [e0, e1, e2, e3, a0, a1, a4, a8, tnum_p4 _ hr.1 hr.2]
  exact ⟨hC, rfl, rfl, rfl, rfl⟩

theorem part_left (X R : List Int) (p k : Nat) (h : p + k ≤ X.length) : ((X ++ R).drop p).take k = (X.drop p).take k := by
  rw [List.drop_append_of_le_length (by omega), List.take_append_of_le_length (by rw [List.length_drop]; omega)]
theorem get_left (X R : List Int) (p : Nat) (h : p < X.length) : (X ++ R).getD p 0 = X.getD p 0 := by
  rw [List.getD_eq_getElem?_getD, List.getElem?_append_left h, ← List.getD_eq_getElem?_getD]
theorem get_set2 (X : List Int) (i j p : Nat) (a b : Int) (hi : i ≠ p) (hj : j ≠ p) : ((X.set i a).set j b).getD p 0 = X.getD p 0 := by
  rw [List.getD_eq_getElem?_getD, List.getElem?_set_ne hj, List.getElem?_set_ne hi, ← List.getD_eq_getElem?_getD]
/-- A valid packet comes back from its bytes, whatever stands behind them. -/
theorem ip_back (x0 x1 : Int) (x2 x3 : Bool) (x4 x5 x6 x7 x8 : Int) (z0 z1 ts : List Int) (hz0 : ∀ x ∈ z0, 0 ≤ x ∧ x ≤ 255) (h : ipC x0 x1 x4 x5 x6 x7 x8 z0.length z1.length = 0) (zs : List Int) (hzs : zs = ipL x0 x1 x2 x3 x4 x5 x6 x7 x8 z0 z1 ++ ts) :
    dpC zs = 0 ∧ zs.getD 1 0 = x0 ∧ tnum ((zs.drop 4).take 2) = x1 ∧ decide (dpF zs / 16384 % 2 = 1) = x2 ∧ decide (dpF zs / 8192 % 2 = 1) = x3 ∧ dpF zs % 8192 * 8 = x4 ∧ zs.getD 8 0 = x5 ∧ zs.getD 9 0 = x6 ∧ tnum ((zs.drop 12).take 4) = x7 ∧ tnum ((zs.drop 16).take 4) = x8 ∧ (zs.drop 20).take ((ihl zs).toNat - 20) = z0 ∧ (zs.drop (ihl zs).toNat).take ((dpW zs).toNat - (ihl zs).toNat) = z1 := by
  have hok : pkOK x0 x1 x4 x5 x6 x7 x8 z0.length = true := by
    unfold ipC at h
    split at h
    · assumption
    · cases h
  have hsz : 20 + (z0.length : Int) + (z1.length : Int) ≤ 65535 ∧ x4 + (z1.length : Int) ≤ 65535 := by
    unfold ipC at h
    rw [hok, if_pos rfl] at h
    split at h
    · cases h
    · omega
  obtain ⟨h0, h1, h4, h5, h6, h7, h8, hn, hm, hd⟩ := pkOK_parts hok
  have eL : ipL x0 x1 x2 x3 x4 x5 x6 x7 x8 z0 z1 = ipHead x0 x1 x2 x3 x4 x5 x6 x7 x8 z0 z1.length ++ z1 := by unfold ipL; rw [if_pos h]
  have hHl := ipH_len x0 x1 x2 x3 x4 x5 x6 x7 x8 z0 z1.length
  generalize hN : (20 + (z0.length : Int) + (z1.length : Int)) = N at *
  generalize hfl : ((if x2 then 16384 else 0) + (if x3 then 8192 else 0) + x4 / 8 : Int) = fl at *
  generalize hf : (64 + (20 + (z0.length : Int)) / 4) = f at *
  have hHp : ipH x0 x1 x2 x3 x4 x5 x6 x7 x8 z0 z1.length = [f, x0] ++ (putL N 2 ++ (putL x1 2 ++ (putL fl 2 ++ ([x5, x6, 0, 0] ++ (putL x7 4 ++ (putL x8 4 ++ z0)))))) := by unfold ipH; rw [hf, hN, hfl]; simp only [List.append_assoc]
  have hfl0 : 0 ≤ fl ∧ fl ≤ 32767 := by rw [← hfl]; cases x2 <;> cases x3 <;> simp <;> omega
  have hfb : 0 ≤ f ∧ f ≤ 255 := by omega
  have hHb : ∀ x ∈ ipH x0 x1 x2 x3 x4 x5 x6 x7 x8 z0 z1.length, 0 ≤ x ∧ x ≤ 255 := by
    intro x hx
    rw [hHp] at hx
    simp only [List.mem_append, List.mem_cons, List.not_mem_nil, or_false] at hx
    rcases hx with (hx | hx) | hx | hx | hx | (hx | hx | hx | hx) | hx | hx | hx
    · omega
    · omega
    · exact putL_bd _ _ x hx
    · exact putL_bd _ _ x hx
    · exact putL_bd _ _ x hx
    · omega
    · omega
    · omega
    · omega
    · exact putL_bd _ _ x hx
    · exact putL_bd _ _ x hx
    · exact hz0 x hx
  generalize hH : ipH x0 x1 x2 x3 x4 x5 x6 x7 x8 z0 z1.length = H at *
  have hHead : ipHead x0 x1 x2 x3 x4 x5 x6 x7 x8 z0 z1.length = (H.set 10 (csum H / 256)).set 11 (csum H % 256) := by unfold ipHead; rw [hH]
  generalize hX : ipHead x0 x1 x2 x3 x4 x5 x6 x7 x8 z0 z1.length = X at *
  have hXl : X.length = 20 + z0.length := by rw [hHead, List.length_set, List.length_set, hHl]
  have hz : zs = X ++ (z1 ++ ts) := by rw [hzs, eL, List.append_assoc]
  have prt : ∀ p k, p + k ≤ 20 + z0.length → (p + k ≤ 10 ∨ 12 ≤ p) → (zs.drop p).take k = (H.drop p).take k := by
    intro p k hpk hav
    rw [hz, part_left _ _ _ _ (by omega), hHead, part_set2 _ 10 11 p k _ _ (by omega) (by omega)]
  have gt : ∀ p, p < 20 + z0.length → p ≠ 10 → p ≠ 11 → zs.getD p 0 = H.getD p 0 := by
    intro p hp h10 h11
    rw [hz, get_left _ _ _ (by omega), hHead, get_set2 _ 10 11 p _ _ (by omega) (by omega)]
  have g0 : zs.getD 0 0 = f := by rw [gt 0 (by omega) (by omega) (by omega), hHp]; rfl
  have g1 : zs.getD 1 0 = x0 := by rw [gt 1 (by omega) (by omega) (by omega), hHp]; rfl
  have p2 : (zs.drop 2).take 2 = putL N 2 := by
    rw [prt 2 2 (by omega) (by omega), hHp]
    exact part_at _ _ _ 2 2 rfl (putL_len _ _)
  have p4 : (zs.drop 4).take 2 = putL x1 2 := by
    rw [prt 4 2 (by omega) (by omega), hHp, ← List.append_assoc]
    exact part_at _ _ _ 4 2 (by simp [putL_len]) (putL_len _ _)
  have p6 : (zs.drop 6).take 2 = putL fl 2 := by
    rw [prt 6 2 (by omega) (by omega), hHp, ← List.append_assoc, ← List.append_assoc]
    exact part_at _ _ _ 6 2 (by simp [putL_len]) (putL_len _ _)
  have p8 : (zs.drop 8).take 2 = [x5, x6] := by
    rw [prt 8 2 (by omega) (by omega), hHp, ← List.append_assoc, ← List.append_assoc, ← List.append_assoc]
    rw [List.drop_left' (by simp [putL_len])]
    rfl
  have g8 : zs.getD 8 0 = x5 := by
    have := congrArg (fun l => l.getD 0 0) p8
    simp only [List.getD_eq_getElem?_getD, List.getElem?_take_of_lt (show 0 < 2 by omega), List.getElem?_drop] at this
    rw [List.getD_eq_getElem?_getD]; exact this
  have g9 : zs.getD 9 0 = x6 := by
    have := congrArg (fun l => l.getD 1 0) p8
    simp only [List.getD_eq_getElem?_getD, List.getElem?_take_of_lt (show 1 < 2 by omega), List.getElem?_drop] at this
    rw [List.getD_eq_getElem?_getD]; exact this
  have p12 : (zs.drop 12).take 4 = putL x7 4 := by
    rw [prt 12 4 (by omega) (by omega), hHp, ← List.append_assoc, ← List.append_assoc, ← List.append_assoc, ← List.append_assoc]
    exact part_at _ _ _ 12 4 (by simp [putL_len]) (putL_len _ _)
  have p16 : (zs.drop 16).take 4 = putL x8 4 := by
    rw [prt 16 4 (by omega) (by omega), hHp, ← List.append_assoc, ← List.append_assoc, ← List.append_assoc, ← List.append_assoc, ← List.append_assoc]
    exact part_at _ _ _ 16 4 (by simp [putL_len]) (putL_len _ _)
  have p20 : (zs.drop 20).take z0.length = z0 := by
    rw [prt 20 z0.length (by omega) (by omega), hHp, ← List.append_assoc, ← List.append_assoc, ← List.append_assoc, ← List.append_assoc, ← List.append_assoc, ← List.append_assoc]
    rw [List.drop_left' (by simp [putL_len]), List.take_length]
  have eI : ihl zs = 20 + (z0.length : Int) := by unfold ihl; rw [g0]; omega
  have eIn : (ihl zs).toNat = 20 + z0.length := by rw [eI]; omega
  have eW : dpW zs = N := by unfold dpW; rw [p2, tnum_p2 _ (by omega) (by omega)]
  have eF : dpF zs = fl := by unfold dpF; rw [p6, tnum_p2 _ (by omega) (by omega)]
  have hl : zs.length = 20 + z0.length + (z1.length + ts.length) := by rw [hz, List.length_append, List.length_append, hXl]
  have hS : csum (zs.take (ihl zs).toNat) = 0 := by
    rw [eIn, hz, List.take_left' hXl, hHead]
    have q10 : H.getD (2 * 5) 0 = 0 ∧ H.getD (2 * 5 + 1) 0 = 0 := by
      have e : (H.drop 10).take 2 = [0, 0] := by
        rw [hHp, ← List.append_assoc, ← List.append_assoc, ← List.append_assoc]
        have : ([f, x0] ++ putL N 2 ++ putL x1 2 ++ putL fl 2).length = 8 := by simp [putL_len]
        rw [show (10 : Nat) = ([f, x0] ++ putL N 2 ++ putL x1 2 ++ putL fl 2).length + 2 by omega, List.drop_append]
        rfl
      constructor
      · have := congrArg (fun l => l.getD 0 0) e
        simp only [List.getD_eq_getElem?_getD, List.getElem?_take_of_lt (show 0 < 2 by omega), List.getElem?_drop] at this
        rw [List.getD_eq_getElem?_getD]; exact this
      · have := congrArg (fun l => l.getD 1 0) e
        simp only [List.getD_eq_getElem?_getD, List.getElem?_take_of_lt (show 1 < 2 by omega), List.getElem?_drop] at this
        rw [List.getD_eq_getElem?_getD]; exact this
    exact csum_back H 5 _ hHb (by omega) q10.1 q10.2 (.inl rfl)
  have hR : rhC zs = 0 := by
    unfold rhC
    rw [if_neg (by omega), g0, if_neg (by omega), eI, if_neg (by omega), ← eI, hS]
    simp
  have hflm : fl % 8192 * 8 = x4 := by rw [← hfl]; cases x2 <;> cases x3 <;> simp <;> omega
  have hC : dpC zs = 0 := by
    unfold dpC
    rw [hR, if_neg (by simp), eW, eI, if_neg (by omega), eF, hflm, if_neg (by omega)]
  refine ⟨hC, g1, by rw [p4]; exact tnum_p2 _ h1.1 h1.2, ?_, ?_, by rw [eF]; exact hflm, g8, g9, by rw [p12]; exact tnum_p4 _ h7.1 h7.2, by rw [p16]; exact tnum_p4 _ h8.1 h8.2, ?_, ?_⟩
  · rw [eF, ← hfl]; cases x2 <;> cases x3 <;> simp <;> omega
  · rw [eF, ← hfl]; cases x2 <;> cases x3 <;> simp <;> omega
  · rw [eIn, Nat.add_sub_cancel_left]; exact p20
  · rw [eIn, eW, show N.toNat - (20 + z0.length) = z1.length by omega, hz, List.drop_left' hXl, List.take_left]

/-- A valid packet's head, whatever stands behind it. -/
theorem head_back (x0 x1 : Int) (x2 x3 : Bool) (x4 x5 x6 x7 x8 : Int) (z0 : List Int) (m : Nat) (R : List Int) (hz0 : ∀ x ∈ z0, 0 ≤ x ∧ x ≤ 255) (h : ipC x0 x1 x4 x5 x6 x7 x8 z0.length m = 0) (zs : List Int) (hz : zs = ipHead x0 x1 x2 x3 x4 x5 x6 x7 x8 z0 m ++ R) :
    rhC zs = 0 ∧ ihl zs = 20 + (z0.length : Int) ∧ zs.getD 9 0 = x6 ∧ tnum ((zs.drop 4).take 2) = x1 ∧ tnum ((zs.drop 12).take 4) = x7 ∧ tnum ((zs.drop 16).take 4) = x8 := by
  have hok : pkOK x0 x1 x4 x5 x6 x7 x8 z0.length = true := by
    unfold ipC at h
    split at h
    · assumption
    · cases h
  have hsz : 20 + (z0.length : Int) + (m : Int) ≤ 65535 ∧ x4 + (m : Int) ≤ 65535 := by
    unfold ipC at h
    rw [hok, if_pos rfl] at h
    split at h
    · cases h
    · omega
  obtain ⟨h0, h1, h4, h5, h6, h7, h8, hn, hm, hd⟩ := pkOK_parts hok
  have hHl := ipH_len x0 x1 x2 x3 x4 x5 x6 x7 x8 z0 m
  generalize hN : (20 + (z0.length : Int) + (m : Int)) = N at *
  generalize hfl : ((if x2 then 16384 else 0) + (if x3 then 8192 else 0) + x4 / 8 : Int) = fl at *
  generalize hf : (64 + (20 + (z0.length : Int)) / 4) = f at *
  have hHp : ipH x0 x1 x2 x3 x4 x5 x6 x7 x8 z0 m = [f, x0] ++ (putL N 2 ++ (putL x1 2 ++ (putL fl 2 ++ ([x5, x6, 0, 0] ++ (putL x7 4 ++ (putL x8 4 ++ z0)))))) := by unfold ipH; rw [hf, hN, hfl]; simp only [List.append_assoc]
  have hfl0 : 0 ≤ fl ∧ fl ≤ 32767 := by rw [← hfl]; cases x2 <;> cases x3 <;> simp <;> omega
  have hfb : 0 ≤ f ∧ f ≤ 255 := by omega
  have hHb : ∀ x ∈ ipH x0 x1 x2 x3 x4 x5 x6 x7 x8 z0 m, 0 ≤ x ∧ x ≤ 255 := by
    intro x hx
    rw [hHp] at hx
    simp only [List.mem_append, List.mem_cons, List.not_mem_nil, or_false] at hx
    rcases hx with (hx | hx) | hx | hx | hx | (hx | hx | hx | hx) | hx | hx | hx
    · omega
    · omega
    · exact putL_bd _ _ x hx
    · exact putL_bd _ _ x hx
    · exact putL_bd _ _ x hx
    · omega
    · omega
    · omega
    · omega
    · exact putL_bd _ _ x hx
    · exact putL_bd _ _ x hx
    · exact hz0 x hx
  generalize hH : ipH x0 x1 x2 x3 x4 x5 x6 x7 x8 z0 m = H at *
  have hHead : ipHead x0 x1 x2 x3 x4 x5 x6 x7 x8 z0 m = (H.set 10 (csum H / 256)).set 11 (csum H % 256) := by unfold ipHead; rw [hH]
  generalize hX : ipHead x0 x1 x2 x3 x4 x5 x6 x7 x8 z0 m = X at *
  have hXl : X.length = 20 + z0.length := by rw [hHead, List.length_set, List.length_set, hHl]
  have prt : ∀ p k, p + k ≤ 20 + z0.length → (p + k ≤ 10 ∨ 12 ≤ p) → (zs.drop p).take k = (H.drop p).take k := by
    intro p k hpk hav
    rw [hz, part_left _ _ _ _ (by omega), hHead, part_set2 _ 10 11 p k _ _ (by omega) (by omega)]
  have gt : ∀ p, p < 20 + z0.length → p ≠ 10 → p ≠ 11 → zs.getD p 0 = H.getD p 0 := by
    intro p hp h10 h11
    rw [hz, get_left _ _ _ (by omega), hHead, get_set2 _ 10 11 p _ _ (by omega) (by omega)]
  have g0 : zs.getD 0 0 = f := by rw [gt 0 (by omega) (by omega) (by omega), hHp]; rfl
  have g1 : zs.getD 1 0 = x0 := by rw [gt 1 (by omega) (by omega) (by omega), hHp]; rfl
  have p2 : (zs.drop 2).take 2 = putL N 2 := by
    rw [prt 2 2 (by omega) (by omega), hHp]
    exact part_at _ _ _ 2 2 rfl (putL_len _ _)
  have p4 : (zs.drop 4).take 2 = putL x1 2 := by
    rw [prt 4 2 (by omega) (by omega), hHp, ← List.append_assoc]
    exact part_at _ _ _ 4 2 (by simp [putL_len]) (putL_len _ _)
  have p6 : (zs.drop 6).take 2 = putL fl 2 := by
    rw [prt 6 2 (by omega) (by omega), hHp, ← List.append_assoc, ← List.append_assoc]
    exact part_at _ _ _ 6 2 (by simp [putL_len]) (putL_len _ _)
  have p8 : (zs.drop 8).take 2 = [x5, x6] := by
    rw [prt 8 2 (by omega) (by omega), hHp, ← List.append_assoc, ← List.append_assoc, ← List.append_assoc]
    rw [List.drop_left' (by simp [putL_len])]
    rfl
  have g8 : zs.getD 8 0 = x5 := by
    have := congrArg (fun l => l.getD 0 0) p8
    simp only [List.getD_eq_getElem?_getD, List.getElem?_take_of_lt (show 0 < 2 by omega), List.getElem?_drop] at this
    rw [List.getD_eq_getElem?_getD]; exact this
  have g9 : zs.getD 9 0 = x6 := by
    have := congrArg (fun l => l.getD 1 0) p8
    simp only [List.getD_eq_getElem?_getD, List.getElem?_take_of_lt (show 1 < 2 by omega), List.getElem?_drop] at this
    rw [List.getD_eq_getElem?_getD]; exact this
  have p12 : (zs.drop 12).take 4 = putL x7 4 := by
    rw [prt 12 4 (by omega) (by omega), hHp, ← List.append_assoc, ← List.append_assoc, ← List.append_assoc, ← List.append_assoc]
    exact part_at _ _ _ 12 4 (by simp [putL_len]) (putL_len _ _)
  have p16 : (zs.drop 16).take 4 = putL x8 4 := by
    rw [prt 16 4 (by omega) (by omega), hHp, ← List.append_assoc, ← List.append_assoc, ← List.append_assoc, ← List.append_assoc, ← List.append_assoc]
    exact part_at _ _ _ 16 4 (by simp [putL_len]) (putL_len _ _)
  have p20 : (zs.drop 20).take z0.length = z0 := by
    rw [prt 20 z0.length (by omega) (by omega), hHp, ← List.append_assoc, ← List.append_assoc, ← List.append_assoc, ← List.append_assoc, ← List.append_assoc, ← List.append_assoc]
    rw [List.drop_left' (by simp [putL_len]), List.take_length]
  have eI : ihl zs = 20 + (z0.length : Int) := by unfold ihl; rw [g0]; omega
  have eIn : (ihl zs).toNat = 20 + z0.length := by rw [eI]; omega
  have hl : zs.length = 20 + z0.length + R.length := by rw [hz, List.length_append, hXl]
  have hS : csum (zs.take (ihl zs).toNat) = 0 := by
    rw [eIn, hz, List.take_left' hXl, hHead]
    have q10 : H.getD (2 * 5) 0 = 0 ∧ H.getD (2 * 5 + 1) 0 = 0 := by
      have e : (H.drop 10).take 2 = [0, 0] := by
        rw [hHp, ← List.append_assoc, ← List.append_assoc, ← List.append_assoc]
        have : ([f, x0] ++ putL N 2 ++ putL x1 2 ++ putL fl 2).length = 8 := by simp [putL_len]
        rw [show (10 : Nat) = ([f, x0] ++ putL N 2 ++ putL x1 2 ++ putL fl 2).length + 2 by omega, List.drop_append]
        rfl
      constructor
      · have := congrArg (fun l => l.getD 0 0) e
        simp only [List.getD_eq_getElem?_getD, List.getElem?_take_of_lt (show 0 < 2 by omega), List.getElem?_drop] at this
        rw [List.getD_eq_getElem?_getD]; exact this
      · have := congrArg (fun l => l.getD 1 0) e
        simp only [List.getD_eq_getElem?_getD, List.getElem?_take_of_lt (show 1 < 2 by omega), List.getElem?_drop] at this
        rw [List.getD_eq_getElem?_getD]; exact this
    exact csum_back H 5 _ hHb (by omega) q10.1 q10.2 (.inl rfl)
  have hR : rhC zs = 0 := by
    unfold rhC
    rw [if_neg (by omega), g0, if_neg (by omega), eI, if_neg (by omega), ← eI, hS]
    simp
  exact ⟨hR, eI, g9, by rw [p4]; exact tnum_p2 _ h1.1 h1.2, by rw [p12]; exact tnum_p4 _ h7.1 h7.2, by rw [p16]; exact tnum_p4 _ h8.1 h8.2⟩
set_option maxRecDepth 100000
theorem coB_parts {x0 x1 x4 x5 x6 x7 x8 : Int} {n0 : Nat} {z1 : List Int} {fr kd cd rs : Int} (h : coB x0 x1 x4 x5 x6 x7 x8 n0 z1 fr kd cd rs = true) : mayB x0 x1 x4 x5 x6 x7 x8 n0 z1 = true ∧ adrB fr = true ∧ (kd = 3 ∨ kd = 11) ∧ inB cd 0 255 = true ∧ inB rs 0 4294967295 = true := by
  unfold coB at h
  simp only [Bool.and_eq_true, Bool.or_eq_true, decide_eq_true_eq] at h
  exact ⟨h.1.1.1.1, h.1.1.1.2, h.1.1.2, h.1.2, h.2⟩
theorem mayB_enc {x0 x1 x4 x5 x6 x7 x8 : Int} {n0 : Nat} {z1 : List Int} (h : mayB x0 x1 x4 x5 x6 x7 x8 n0 z1 = true) : ipC x0 x1 x4 x5 x6 x7 x8 n0 z1.length = 0 := by
  unfold mayB at h
  simp only [Bool.and_eq_true, decide_eq_true_eq] at h
  exact h.1.1.1.1
theorem ipC_ok {x0 x1 x4 x5 x6 x7 x8 : Int} {n0 n1 : Nat} (h : ipC x0 x1 x4 x5 x6 x7 x8 n0 n1 = 0) : pkOK x0 x1 x4 x5 x6 x7 x8 n0 = true := by
  unfold ipC at h
  split at h
  · assumption
  · cases h
/-- What a complaint quotes: the head, and eight bytes of the payload. -/
theorem quoted_is {x0 x1 : Int} {x2 x3 : Bool} {x4 x5 x6 x7 x8 : Int} {z0 z1 : List Int} (h : ipC x0 x1 x4 x5 x6 x7 x8 z0.length z1.length = 0) : (ipL x0 x1 x2 x3 x4 x5 x6 x7 x8 z0 z1).take (coE z0.length z1.length) = ipHead x0 x1 x2 x3 x4 x5 x6 x7 x8 z0 z1.length ++ z1.take 8 := by
  have eL : ipL x0 x1 x2 x3 x4 x5 x6 x7 x8 z0 z1 = ipHead x0 x1 x2 x3 x4 x5 x6 x7 x8 z0 z1.length ++ z1 := by unfold ipL; rw [if_pos h]
  have hl := ipHead_len x0 x1 x2 x3 x4 x5 x6 x7 x8 z0 z1.length
  rw [eL, List.take_append, hl]
  unfold coE
  split
  · rw [List.take_of_length_le (by omega), show 28 + z0.length - (20 + z0.length) = 8 by omega]
  · rw [List.take_of_length_le (by omega), show 20 + z0.length + z1.length - (20 + z0.length) = z1.length by omega, List.take_of_length_le (by omega), List.take_of_length_le (by omega)]
theorem csum_rng (zs : List Int) (hz : ∀ z ∈ zs, 0 ≤ z ∧ z ≤ 255) : 0 ≤ csum zs ∧ csum zs ≤ 65535 := by
  have hb := psum_bd hz ((zs.length + 1) / 2)
  have hf := fold_bd _ hb.1
  unfold csum
  omega
theorem ipHead_bd {x0 x1 : Int} {x2 x3 : Bool} {x4 x5 x6 x7 x8 : Int} {z0 : List Int} {m : Nat} (hz0 : ∀ x ∈ z0, 0 ≤ x ∧ x ≤ 255) (h : ipC x0 x1 x4 x5 x6 x7 x8 z0.length m = 0) : ∀ x ∈ ipHead x0 x1 x2 x3 x4 x5 x6 x7 x8 z0 m, 0 ≤ x ∧ x ≤ 255 := by
  obtain ⟨h0, h1, h4, h5, h6, h7, h8, hn, hm, hd⟩ := pkOK_parts (ipC_ok h)
  have hHb : ∀ x ∈ ipH x0 x1 x2 x3 x4 x5 x6 x7 x8 z0 m, 0 ≤ x ∧ x ≤ 255 := by
    intro x hx
    unfold ipH at hx
    simp only [List.mem_append, List.mem_cons, List.not_mem_nil, or_false] at hx
    rcases hx with (((((((hx | hx) | hx) | hx) | hx) | (hx | hx | hx | hx)) | hx) | hx) | hx
    all_goals first | omega | exact putL_bd _ _ x hx | exact hz0 x hx
  have hc := csum_rng _ hHb
  unfold ipHead
  intro x hx
  rcases List.mem_or_eq_of_mem_set hx with hx | hx
  · rcases List.mem_or_eq_of_mem_set hx with hx | hx
    · exact hHb x hx
    · subst hx; omega
  · subst hx; omega
/-- What a complaint's payload tells. -/
theorem com_icmp {x0 x1 : Int} {x2 x3 : Bool} {x4 x5 x6 x7 x8 : Int} {z0 z1 : List Int} {fr kd cd rs : Int} (hz0 : ∀ x ∈ z0, 0 ≤ x ∧ x ≤ 255) (hz1 : ∀ x ∈ z1, 0 ≤ x ∧ x ≤ 255) (h : coB x0 x1 x4 x5 x6 x7 x8 z0.length z1 fr kd cd rs = true) (M : List Int) (hM : coL x0 x1 x2 x3 x4 x5 x6 x7 x8 z0 z1 fr kd cd rs = M) :
    idC M = 0 ∧ idT M = kd ∧ idK M = cd ∧ idR M = rs ∧ idB M = ipHead x0 x1 x2 x3 x4 x5 x6 x7 x8 z0 z1.length ++ z1.take 8 ∧ M.length = 8 + (20 + z0.length + (z1.take 8).length) ∧ M.getD 0 0 = kd := by
  obtain ⟨hm, hf, hk, hc, hr⟩ := coB_parts h
  have he := mayB_enc hm
  have hq := quoted_is (x2 := x2) (x3 := x3) he
  unfold coL at hM
  rw [if_pos h, hq] at hM
  have hl := ipHead_len x0 x1 x2 x3 x4 x5 x6 x7 x8 z0 z1.length
  obtain ⟨_, _, _, _, _, _, _, hn0, _⟩ := pkOK_parts (ipC_ok he)
  have hQl : (ipHead x0 x1 x2 x3 x4 x5 x6 x7 x8 z0 z1.length ++ z1.take 8).length = 20 + z0.length + (z1.take 8).length := by rw [List.length_append, hl]
  have ht8 : (z1.take 8).length ≤ 8 := by rw [List.length_take]; omega
  have hok : icOK kd cd rs = true := by
    unfold icOK
    rw [hc, hr]
    rcases hk with rfl | rfl <;> rfl
  have hC : icC kd cd rs (ipHead x0 x1 x2 x3 x4 x5 x6 x7 x8 z0 z1.length ++ z1.take 8).length = 0 := by
    unfold icC
    rw [hok, if_pos rfl, if_neg (by omega)]
  have hb : ∀ x ∈ ipHead x0 x1 x2 x3 x4 x5 x6 x7 x8 z0 z1.length ++ z1.take 8, 0 ≤ x ∧ x ≤ 255 := by
    intro x hx
    rcases List.mem_append.1 hx with hx | hx
    · exact ipHead_bd hz0 he x hx
    · exact hz1 x (List.mem_of_mem_take hx)
  obtain ⟨e0, e1, e2, e3, e4⟩ := icmp_back kd cd rs _ hb hC
  rw [hM] at e0 e1 e2 e3 e4
  refine ⟨e0, e1, e2, e3, e4, ?_, ?_⟩
  · rw [← hM]
    unfold icL
    rw [if_pos hC, List.length_set, List.length_set, icH_len, hQl]
  · have := e1
    unfold idT at this
    rw [if_pos e0] at this
    exact this
/-- The complaint itself comes back, and nobody may complain about it. -/
theorem com_pack {x0 x1 : Int} {x2 x3 : Bool} {x4 x5 x6 x7 x8 : Int} {z0 z1 : List Int} {fr kd cd rs : Int} (hz0 : ∀ x ∈ z0, 0 ≤ x ∧ x ≤ 255) (hz1 : ∀ x ∈ z1, 0 ≤ x ∧ x ≤ 255) (h : coB x0 x1 x4 x5 x6 x7 x8 z0.length z1 fr kd cd rs = true) (M : List Int) (hM : coL x0 x1 x2 x3 x4 x5 x6 x7 x8 z0 z1 fr kd cd rs = M) :
    ipC 0 0 0 64 1 fr x7 0 M.length = 0 ∧ mayB 0 0 0 64 1 fr x7 0 M = false := by
  obtain ⟨_, _, _, _, _, hl, hg⟩ := com_icmp hz0 hz1 h M hM
  obtain ⟨hm, hf, hk, hc, hr⟩ := coB_parts h
  have hok := ipC_ok (mayB_enc hm)
  obtain ⟨_, _, _, _, _, _, _, hn0, _⟩ := pkOK_parts hok
  have h7 : adrB x7 = true := by
    unfold pkOK at hok
    simp only [Bool.and_eq_true] at hok
    exact hok.1.1.1.2
  have ht8 : (z1.take 8).length ≤ 8 := by rw [List.length_take]; omega
  constructor
  · unfold ipC
    have : pkOK 0 0 0 64 1 fr x7 0 = true := by
      unfold pkOK
      rw [hf, h7]
      rfl
    rw [this, if_pos rfl, if_neg (by omega)]
  · unfold mayB
    rw [hg]
    rcases hk with rfl | rfl <;> simp
theorem four_of {z : List Int} (h : 8 ≤ z.length) : ∃ a b c d r, z = a :: b :: c :: d :: r := by
  match z, h with
  | a :: b :: c :: d :: r, _ => exact ⟨a, b, c, d, r, rfl⟩
  | [], h => simp at h
  | [_], h => simp at h
  | [_, _], h => simp at h
  | [_, _, _], h => simp at h
/-- What is quoted tells the packet. -/
theorem com_quote {x0 x1 : Int} {x2 x3 : Bool} {x4 x5 x6 x7 x8 : Int} {z0 z1 : List Int} (hz0 : ∀ x ∈ z0, 0 ≤ x ∧ x ≤ 255) (h : ipC x0 x1 x4 x5 x6 x7 x8 z0.length z1.length = 0) (zs : List Int) (hzs : zs = ipHead x0 x1 x2 x3 x4 x5 x6 x7 x8 z0 z1.length ++ z1.take 8) :
    (z1.length < 8 → rqC zs = 2) ∧ (8 ≤ z1.length → rqC zs = 0 ∧ zs.getD 9 0 = x6 ∧ tnum ((zs.drop 12).take 4) = x7 ∧ tnum ((zs.drop 16).take 4) = x8 ∧ tnum ((zs.drop 4).take 2) = x1 ∧ tnum ((zs.drop (rqS zs)).take 2) = z1.getD 0 0 * 256 + z1.getD 1 0 ∧ tnum ((zs.drop (rqS zs + 2)).take 2) = z1.getD 2 0 * 256 + z1.getD 3 0) := by
  obtain ⟨hR, hI, h9, h4, h12, h16⟩ := head_back x0 x1 x2 x3 x4 x5 x6 x7 x8 z0 z1.length (z1.take 8) hz0 h zs hzs
  have hl := ipHead_len x0 x1 x2 x3 x4 x5 x6 x7 x8 z0 z1.length
  have hzl : zs.length = 20 + z0.length + (z1.take 8).length := by rw [hzs, List.length_append, hl]
  constructor
  · intro h8
    have : (z1.take 8).length = z1.length := by rw [List.length_take]; omega
    unfold rqC
    rw [hR, hI, if_neg (by simp), if_pos (by omega)]
  · intro h8
    have ht : (z1.take 8).length = 8 := by rw [List.length_take]; omega
    have hS : rqS zs = 20 + z0.length := by unfold rqS; rw [hI]; omega
    have hd : zs.drop (20 + z0.length) = z1.take 8 := by rw [hzs]; exact List.drop_left' hl
    have hd2 : zs.drop (20 + z0.length + 2) = (z1.take 8).drop 2 := by rw [← List.drop_drop, hd]
    refine ⟨?_, h9, h12, h16, h4, ?_, ?_⟩
    · unfold rqC
      rw [hR, hI, if_neg (by simp), if_neg (by omega)]
    · rw [hS, hd]
      obtain ⟨a, b, c, d, r, e⟩ := four_of h8
      rw [e]
      simp [tnum]
    · rw [hS, hd2]
      obtain ⟨a, b, c, d, r, e⟩ := four_of h8
      rw [e]
      simp [tnum]
set_option maxRecDepth 100000
/-- EncodeIP of the program. -/
theorem implEncIP (x0 x1 : Int) (x2 x3 : Bool) (x4 x5 x6 x7 x8 : Int) (z0 z1 : List Int) : EncPacketP 9 ErrT x0 x1 x2 x3 x4 x5 x6 x7 x8 z0 z1 (ipL x0 x1 x2 x3 x4 x5 x6 x7 x8 z0 z1) (ipC x0 x1 x4 x5 x6 x7 x8 z0.length z1.length) := by
  intro a0 n0 c0 a1 n1 c1 W h0n h0a _ m0 h1n h1a _ m1 he
  subst h0n h1n
  have bad : ∀ c : Int, ipC x0 x1 x4 x5 x6 x7 x8 z0.length z1.length = c → ¬ c = 0 → ∀ e w', e = Ending.returned (.tuple #[.slice none 0 0, .int .i64 c]) ∧ Below W.heap.size W w' → ∃ v : Value, e = .returned (.tuple #[v, .int .i64 (ipC x0 x1 x4 x5 x6 x7 x8 z0.length z1.length)]) ∧ OwnB w' W.heap.size v (ipL x0 x1 x2 x3 x4 x5 x6 x7 x8 z0 z1) ∧ Below W.heap.size W w' := by
    rintro c hc h0 e w' ⟨rfl, hb⟩
    refine ⟨_, by rw [hc], ?_, hb⟩
    unfold ipL
    rw [hc, if_neg h0]
    exact ⟨World.ownsRow_nil _ _ _ _, by simp⟩
  cases h : pkOK x0 x1 x4 x5 x6 x7 x8 z0.length with
  | false =>
    have hC : ipC x0 x1 x4 x5 x6 x7 x8 z0.length z1.length = 1 := by unfold ipC; rw [h]; rfl
    exact (implEncIP_form x0 x1 x2 x3 x4 x5 x6 x7 x8 a0 _ c0 a1 _ c1 W m0 m1 h he).mono (bad 1 hC (by decide))
  | true =>
    by_cases hs : 20 + (z0.length : Int) + (z1.length : Int) ≤ 65535
    · by_cases hs2 : x4 + (z1.length : Int) ≤ 65535
      · have hC : ipC x0 x1 x4 x5 x6 x7 x8 z0.length z1.length = 0 := by unfold ipC; rw [h, if_pos rfl, if_neg (by omega)]
        have hN : 20 + (z0.length : Int) + (z1.length : Int) = ((20 + z0.length + z1.length : Nat) : Int) := by omega
        refine (implEncIP_ok x0 x1 x2 x3 x4 x5 x6 x7 x8 a0 _ c0 a1 _ c1 z0 z1 W rfl h0a rfl h1a m0 m1 h (20 + z0.length + z1.length) hN (by omega) hs2 (ipL x0 x1 x2 x3 x4 x5 x6 x7 x8 z0 z1) (by rw [head_is x0 x1 x2 x3 x4 x5 x6 x7 x8 z0 z1.length _ h hN h0a.1]; unfold ipL; rw [hC, if_pos rfl])).mono ?_
        rintro e w' ⟨v, rfl, hO, hb⟩
        exact ⟨v, by rw [hC], hO, hb⟩
      · have hC : ipC x0 x1 x4 x5 x6 x7 x8 z0.length z1.length = 7 := by unfold ipC; rw [h, if_pos rfl, if_pos (by omega)]
        exact (implEncIP_size x0 x1 x2 x3 x4 x5 x6 x7 x8 a0 _ c0 a1 _ c1 W m0 m1 h (by unfold fitB; rw [decide_eq_false hs2, Bool.and_false]) he).mono (bad 7 hC (by decide))
    · have hC : ipC x0 x1 x4 x5 x6 x7 x8 z0.length z1.length = 7 := by unfold ipC; rw [h, if_pos rfl, if_pos (by omega)]
      exact (implEncIP_size x0 x1 x2 x3 x4 x5 x6 x7 x8 a0 _ c0 a1 _ c1 W m0 m1 h (by unfold fitB; rw [decide_eq_false hs]; rfl) he).mono (bad 7 hC (by decide))

theorem tnum_one (zs : List Int) (p : Nat) (h : p < zs.length) : tnum ((zs.drop p).take 1) = zs.getD p 0 := by
  rw [List.drop_eq_getElem_cons h, List.take_succ_cons, List.take_zero, List.getD_eq_getElem?_getD, List.getElem?_eq_getElem h]
  unfold tnum
  simp
theorem df_bit (f : Int) (h0 : 0 ≤ f) (h1 : f ≤ 65535) : (bits .and .i64 f 16384 != 0) = decide (f / 16384 % 2 = 1) := by rw [and_16384 f h0 h1]; exact bit_ne _ _ (by decide)
theorem mf_bit (f : Int) (h0 : 0 ≤ f) (h1 : f ≤ 65535) : (bits .and .i64 f 8192 != 0) = decide (f / 8192 % 2 = 1) := by rw [and_8192 f h0 h1]; exact bit_ne _ _ (by decide)
theorem spare_bit (f : Int) (h0 : 0 ≤ f) (h1 : f ≤ 65535) : (bits .and .i64 f 32768 != 0) = decide (32768 ≤ f) := by
  rw [and_32768 f h0 h1]
  by_cases h : 32768 ≤ f
  · rw [decide_eq_true h, bne_iff_ne]; omega
  · rw [decide_eq_false h, show f / 32768 * 32768 = 0 by omega]; rfl
/-- DecodeIP of the program: what is refused. -/
theorem decBad (zs : List Int) (a : Option Addr) (n cap : Nat) (w : World) (c : Int) (hc : dpC zs = c) (h0 : c ≠ 0) (he : ErrT w) (hm : n ≤ 1048576)
    (hP : ∀ W, Cur W (w.heap.size + 1) (.slice a n cap) 0 .nilIface → Below w.heap.size w W → W.heap.size = w.heap.size + 2 → Calls Tryz.prog 40 #[.pointer (some ⟨w.heap.size + 1, 0, none⟩)] W fun e w' => ∃ (p : Nat) (y0 y1 y2 y3 y4 y5 y6 y7 y8 : Int) (ao : Option Addr) (lo co : Nat) (ap : Option Addr) (lp cp : Nat), e = .returned (.agg #[.int .i64 y0, .int .i64 y1, .int .i64 y2, .int .i64 y3, .int .i64 y4, .int .i64 y5, .int .i64 y6, .int .i64 y7, .int .i64 y8, .slice ao lo co, .slice ap lp cp]) ∧ Cur w' (w.heap.size + 1) (.slice a n cap) p (wErr c) ∧ Only [w.heap.size + 1] W w')
    (x0 x1 : Int) (x2 x3 : Bool) (x4 x5 x6 x7 x8 : Int) (L0 L1 : List Int) :
    Calls Tryz.prog 10 #[.slice a n cap] w fun e w' => ∃ v0 v1 : Value, e = .returned (.tuple #[.agg #[.int .i64 (dpI zs x0), .int .i64 (dpI zs x1), .bool (dpB zs x2), .bool (dpB zs x3), .int .i64 (dpI zs x4), .int .i64 (dpI zs x5), .int .i64 (dpI zs x6), .int .i64 (dpI zs x7), .int .i64 (dpI zs x8), v0, v1], .int .i64 (dpC zs)]) ∧ OwnB w' w.heap.size v0 (dpL zs L0) ∧ OwnB w' w.heap.size v1 (dpL zs L1) ∧ (∀ b, v0.ownBlock = some b → v1.ownBlock ≠ some b) ∧ Below w.heap.size w w' := by
  refine (implDecIP_bad a n cap c h0 w he hP).mono ?_
  rintro e w' ⟨rfl, hb⟩
  have hI : ∀ x, dpI zs x = 0 := fun x => by unfold dpI; rw [hc, if_neg h0]
  have hB : ∀ x, dpB zs x = false := fun x => by unfold dpB; rw [hc, if_neg h0]
  have hL : ∀ x, dpL zs x = [] := fun x => by unfold dpL; rw [hc, if_neg h0]
  refine ⟨.slice none 0 0, .slice none 0 0, by rw [hI, hI, hB, hB, hI, hI, hI, hI, hI, hc], ?_, ?_, ?_, hb⟩
  · rw [hL]; exact ⟨World.ownsRow_nil _ _ _ _, by simp⟩
  · rw [hL]; exact ⟨World.ownsRow_nil _ _ _ _, by simp⟩
  · intro b h; simp [Value.ownBlock] at h
theorem headBad (a : Option Addr) (n cap : Nat) (w : World) (c : Int) (hm : n ≤ 1048576)
    (hT : ∀ W F g, g < w.heap.size + 2 → w.heap.size < g → Cur W g (.slice a n cap) 0 .nilIface → FR W F 0 0 0 0 0 0 0 0 0 (.slice none 0 0) (.slice none 0 0) → F ≠ g → w.heap.size ≤ F → Below w.heap.size w W → Calls Tryz.prog 50 #[.pointer (some ⟨F, 0, none⟩), .pointer (some ⟨g, 0, none⟩)] W fun e w' => ∃ (p : Nat) (y0 y1 y2 y3 y4 y5 y6 y7 y8 : Int) (ao : Option Addr) (lo co : Nat), e = .returned (.tuple #[]) ∧ Cur w' g (.slice a n cap) p (wErr c) ∧ p ≤ n ∧ FR w' F y0 y1 y2 y3 y4 y5 y6 y7 y8 (.slice ao lo co) (.slice none 0 0) ∧ (0 ≤ y0 ∧ y0 ≤ 255) ∧ (0 ≤ y2 ∧ y2 ≤ 65535) ∧ (0 ≤ y4 ∧ y4 ≤ 65535) ∧ Only [g, F] W w') :
    ∀ W, Cur W (w.heap.size + 1) (.slice a n cap) 0 .nilIface → Below w.heap.size w W → W.heap.size = w.heap.size + 2 → Calls Tryz.prog 40 #[.pointer (some ⟨w.heap.size + 1, 0, none⟩)] W fun e w' => ∃ (p : Nat) (y0 y1 y2 y3 y4 y5 y6 y7 y8 : Int) (ao : Option Addr) (lo co : Nat) (ap : Option Addr) (lp cp : Nat), e = .returned (.agg #[.int .i64 y0, .int .i64 y1, .int .i64 y2, .int .i64 y3, .int .i64 y4, .int .i64 y5, .int .i64 y6, .int .i64 y7, .int .i64 y8, .slice ao lo co, .slice ap lp cp]) ∧ Cur w' (w.heap.size + 1) (.slice a n cap) p (wErr c) ∧ Only [w.heap.size + 1] W w' := by
  intro W hc hb hs
  refine (takePacket_err (w.heap.size + 1) n cap a c W hc hm (fun W' F hc' hf' hne hb' hF _ => hT W' F (w.heap.size + 1) (by omega) (by omega) hc' hf' hne (by omega) (hb.trans (hb'.mono hb.size)))).mono ?_
  rintro e w' ⟨p, y0, y1, y2, y3, y4, y5, y6, y7, y8, ao, lo, co, ap, rfl, h1, h2⟩
  exact ⟨p, y0, y1, y2, y3, y4, y5, y6, y7, y8, ao, lo, co, ap, 0, 0, rfl, h1, h2⟩
/-- DecodeIP of the program. -/
theorem implDecIP (zs : List Int) (hz : ∀ z ∈ zs, 0 ≤ z ∧ z ≤ 255) : DecPacketP 10 ErrT zs (dpI zs (zs.getD 1 0)) (dpI zs (tnum ((zs.drop 4).take 2))) (dpB zs (decide (dpF zs / 16384 % 2 = 1))) (dpB zs (decide (dpF zs / 8192 % 2 = 1))) (dpI zs (dpF zs % 8192 * 8)) (dpI zs (zs.getD 8 0)) (dpI zs (zs.getD 9 0)) (dpI zs (tnum ((zs.drop 12).take 4))) (dpI zs (tnum ((zs.drop 16).take 4))) (dpL zs ((zs.drop 20).take ((ihl zs).toNat - 20))) (dpL zs ((zs.drop (ihl zs).toNat).take ((dpW zs).toNat - (ihl zs).toNat))) (dpC zs) := by
  intro a n cap w hn ha hcap hm he
  by_cases h20 : n < 20
  · have hC : dpC zs = 2 := by have hR : rhC zs = 2 := by { unfold rhC; rw [if_pos (show zs.length < 20 by omega)] }; unfold dpC; rw [hR, if_pos (by decide)]
    refine decBad zs a n cap w 2 hC (by decide) he hm (headBad a n cap w 2 hm ?_) _ _ _ _ _ _ _ _ _ _ _
    intro W F g hg1 hg2 hc hf hne hF hb
    refine (takeHead_short g F n cap a W hc hf hm h20 hne).mono ?_
    rintro e w' ⟨K, p, rfl, h1, h2, h3, h4⟩
    exact ⟨p, _, _, _, _, _, _, _, _, _, _, _, _, rfl, h1, h4, h2, by omega, by omega, by omega, h3⟩
  · obtain ⟨b, off, rfl, hblt, _⟩ := ha.2 0 (by omega)
    have tb := fun (p k : Nat) (hk : p + k ≤ zs.length) => tnum_bd (zs.drop p) (fun z h => hz z (List.mem_of_mem_drop h)) k (by rw [List.length_drop]; omega)
    have b0 := tb 0 1 (by omega)
    have b2 := tb 2 2 (by omega)
    have b4 := tb 6 2 (by omega)
    have e0 : tnum ((zs.drop 0).take 1) = zs.getD 0 0 := tnum_one zs 0 (by omega)
    obtain ⟨y0, hy0⟩ : ∃ y, y = tnum ((zs.drop 0).take 1) := ⟨_, rfl⟩
    obtain ⟨y2, hy2⟩ : ∃ y, y = tnum ((zs.drop 2).take 2) := ⟨_, rfl⟩
    obtain ⟨y4, hy4⟩ : ∃ y, y = tnum ((zs.drop 6).take 2) := ⟨_, rfl⟩
    rw [← hy0] at b0 e0
    rw [← hy2] at b2
    rw [← hy4] at b4
    have hI : ihl zs = y0 % 16 * 4 := by unfold ihl; rw [← e0]
    have hW : dpW zs = y2 := hy2.symm
    have hFl : dpF zs = y4 := hy4.symm
    have n20 : ¬ zs.length < 20 := by omega
    by_cases hv : y0 / 16 = 4
    rotate_left
    · have hC : dpC zs = 4 := by have hR : rhC zs = 4 := by { unfold rhC; rw [if_neg n20, ← e0, if_pos hv] }; unfold dpC; rw [hR, if_pos (by decide)]
      refine decBad zs _ n cap w 4 hC (by decide) he hm (headBad _ n cap w 4 hm ?_) _ _ _ _ _ _ _ _ _ _ _
      intro W F g hg1 hg2 hc hf hne hF hb
      refine (takeHead_version g F n cap b off zs W hc hf hn (ha.below hb (Nat.le_refl _)) hm hcap (by omega) (by omega) (by omega) hne y0 hy0 b0.1 (by omega) (by simpa using hv)).mono ?_
      rintro e w' ⟨K, p, rfl, h1, h2, h3, h4⟩
      exact ⟨p, _, _, _, _, _, _, _, _, _, _, _, _, rfl, h1, h4, h2, by omega, by omega, by omega, h3⟩
    · have hvb : (y0 / 16 == 4) = true := by rw [hv]; rfl
      by_cases hs : 20 ≤ y0 % 16 * 4
      rotate_left
      · have hC : dpC zs = 5 := by have hR : rhC zs = 5 := by { unfold rhC; rw [if_neg n20, ← e0, if_neg (show ¬ y0 / 16 ≠ 4 by omega), hI, if_pos (show y0 % 16 * 4 < 20 ∨ (zs.length : Int) < y0 % 16 * 4 by omega)] }; unfold dpC; rw [hR, if_pos (by decide)]
        refine decBad zs _ n cap w 5 hC (by decide) he hm (headBad _ n cap w 5 hm ?_) _ _ _ _ _ _ _ _ _ _ _
        intro W F g hg1 hg2 hc hf hne hF hb
        refine (takeHead_low g F n cap b off zs W hc hf hn (ha.below hb (Nat.le_refl _)) hm hcap (by omega) (by omega) (by omega) hne y0 hy0 b0.1 (by omega) hvb (decide_eq_false hs)).mono ?_
        rintro e w' ⟨K, p, rfl, h1, h2, h3, h4⟩
        exact ⟨p, _, _, _, _, _, _, _, _, _, _, _, _, rfl, h1, h4, h2, by omega, by omega, by omega, h3⟩
      · by_cases hs2 : y0 % 16 * 4 ≤ (n : Int)
        rotate_left
        · have hC : dpC zs = 5 := by have hR : rhC zs = 5 := by { unfold rhC; rw [if_neg n20, ← e0, if_neg (show ¬ y0 / 16 ≠ 4 by omega), hI, if_pos (show y0 % 16 * 4 < 20 ∨ (zs.length : Int) < y0 % 16 * 4 by omega)] }; unfold dpC; rw [hR, if_pos (by decide)]
          refine decBad zs _ n cap w 5 hC (by decide) he hm (headBad _ n cap w 5 hm ?_) _ _ _ _ _ _ _ _ _ _ _
          intro W F g hg1 hg2 hc hf hne hF hb
          refine (takeHead_high g F n cap b off zs W hc hf hn (ha.below hb (Nat.le_refl _)) hm hcap (by omega) (by omega) (by omega) hne y0 hy0 b0.1 (by omega) hvb hs (decide_eq_false hs2)).mono ?_
          rintro e w' ⟨K, p, rfl, h1, h2, h3, h4⟩
          exact ⟨p, _, _, _, _, _, _, _, _, _, _, _, _, rfl, h1, h4, h2, by omega, by omega, by omega, h3⟩
        · obtain ⟨ko, hko⟩ : ∃ ko : Nat, y0 % 16 * 4 - 20 = (ko : Int) := ⟨(y0 % 16 * 4 - 20).toNat, by omega⟩
          have hIn : (ihl zs).toNat = 20 + ko := by rw [hI]; omega
          have long : ∀ (E : Bool), (csum (zs.take (20 + ko)) == 0) = E → ∀ W F g, g < w.heap.size + 2 → w.heap.size < g → Cur W g (.slice (some ⟨b, off, none⟩) n cap) 0 .nilIface → FR W F 0 0 0 0 0 0 0 0 0 (.slice none 0 0) (.slice none 0 0) → F ≠ g → w.heap.size ≤ F → Below w.heap.size w W → _ := fun E hE W F g hg1 hg2 hc hf hne hF hb =>
            takeHead_long g F n cap b off zs W hc hf hn (ha.below hb (Nat.le_refl _)) hm hcap (by omega) (by omega) (by omega) hne y0 hy0 b0.1 (by omega) hvb hs hs2 _ rfl y2 hy2 _ rfl y4 hy4 _ rfl _ rfl _ rfl _ rfl ko hko E hE _ rfl
          by_cases hk : csum (zs.take (20 + ko)) = 0
          rotate_left
          · have hC : dpC zs = 3 := by have hR : rhC zs = 3 := by { unfold rhC; rw [if_neg n20, ← e0, if_neg (show ¬ y0 / 16 ≠ 4 by omega), hIn, if_pos hk, hI, if_neg (show ¬ (y0 % 16 * 4 < 20 ∨ (zs.length : Int) < y0 % 16 * 4) by omega)] }; unfold dpC; rw [hR, if_pos (by decide)]
            refine decBad zs _ n cap w 3 hC (by decide) he hm (headBad _ n cap w 3 hm ?_) _ _ _ _ _ _ _ _ _ _ _
            intro W F g hg1 hg2 hc hf hne hF hb
            refine (long false (by simpa using hk) W F g hg1 hg2 hc hf hne hF hb).mono ?_
            rintro e w' ⟨ao, co, rfl, h1, h2, h3, h4⟩
            exact ⟨_, _, _, _, _, _, _, _, _, _, _, _, _, rfl, h1, by omega, h2, by omega, by omega, by omega, h4⟩
          · have hR : rhC zs = 0 := by unfold rhC; rw [if_neg n20, ← e0, if_neg (show ¬ y0 / 16 ≠ 4 by omega), hIn, if_neg (show ¬ csum (zs.take (20 + ko)) ≠ 0 by rw [hk]; decide), hI, if_neg (show ¬ (y0 % 16 * 4 < 20 ∨ (zs.length : Int) < y0 % 16 * 4) by omega)]
            have hTl : ∀ W, W.heap.size = w.heap.size + 2 → Below w.heap.size w W → ∀ W' F, Cur W' (w.heap.size + 1) (.slice (some ⟨b, off, none⟩) n cap) 0 .nilIface → FR W' F 0 0 0 0 0 0 0 0 0 (.slice none 0 0) (.slice none 0 0) → F ≠ w.heap.size + 1 → Below W.heap.size W W' → W.heap.size ≤ F → W'.heap.size = W.heap.size + 2 → Calls Tryz.prog 50 #[.pointer (some ⟨F, 0, none⟩), .pointer (some ⟨w.heap.size + 1, 0, none⟩)] W' fun e w' => ∃ (ao : Option Addr) (co : Nat), e = .returned (.tuple #[]) ∧ Cur w' (w.heap.size + 1) (.slice (some ⟨b, off, none⟩) n cap) (20 + ko) .nilIface ∧ FR w' F y0 (tnum ((zs.drop 1).take 1)) y2 (tnum ((zs.drop 4).take 2)) y4 (tnum ((zs.drop 8).take 1)) (tnum ((zs.drop 9).take 1)) (tnum ((zs.drop 12).take 4)) (tnum ((zs.drop 16).take 4)) (.slice ao ko co) (.slice none 0 0) ∧ OwnB w' (W.heap.size + 2) (.slice ao ko co) ((zs.drop 20).take ko) ∧ Only [w.heap.size + 1, F] W' w' := by
              intro W hWs hWb W' F hc hf hne hb hF hs'
              have h := long true (by rw [hk]; rfl) W' F (w.heap.size + 1) (by omega) (by omega) hc hf hne (by omega) (hWb.trans (hb.mono hWb.size))
              rw [hs'] at h
              exact h
            by_cases hw1 : y0 % 16 * 4 ≤ y2
            rotate_left
            · have hC : dpC zs = 5 := by unfold dpC; rw [hR, if_neg (by decide), hI, hW, if_pos (by omega)]
              refine decBad zs _ n cap w 5 hC (by decide) he hm ?_ _ _ _ _ _ _ _ _ _ _ _
              intro W hc hb hsz
              refine (takePacket_low (w.heap.size + 1) n cap b off W hc hm y0 _ y2 _ y4 _ _ _ _ b0.1 (by omega) b2.1 (by omega) b4.1 (by omega) ko _ (by omega) (decide_eq_false hw1) (hTl W hsz hb)).mono ?_
              rintro e w' ⟨p, y0, y1, y2, y3, y4, y5, y6, y7, y8, ao, lo, co, ap, rfl, h1, h2⟩
              exact ⟨p, y0, y1, y2, y3, y4, y5, y6, y7, y8, ao, lo, co, ap, 0, 0, rfl, h1, h2⟩
            · by_cases hw2 : y2 ≤ (n : Int)
              rotate_left
              · have hC : dpC zs = 5 := by unfold dpC; rw [hR, if_neg (by decide), hI, hW, if_pos (by omega)]
                refine decBad zs _ n cap w 5 hC (by decide) he hm ?_ _ _ _ _ _ _ _ _ _ _ _
                intro W hc hb hsz
                refine (takePacket_high (w.heap.size + 1) n cap b off W hc hm y0 _ y2 _ y4 _ _ _ _ b0.1 (by omega) b2.1 (by omega) b4.1 (by omega) ko _ (by omega) hw1 (decide_eq_false hw2) (hTl W hsz hb)).mono ?_
                rintro e w' ⟨p, y0, y1, y2, y3, y4, y5, y6, y7, y8, ao, lo, co, ap, rfl, h1, h2⟩
                exact ⟨p, y0, y1, y2, y3, y4, y5, y6, y7, y8, ao, lo, co, ap, 0, 0, rfl, h1, h2⟩
              · obtain ⟨kp, hkp⟩ : ∃ kp : Nat, y2 - y0 % 16 * 4 = (kp : Int) := ⟨(y2 - y0 % 16 * 4).toNat, by omega⟩
                have hsp := spare_bit y4 b4.1 (by omega)
                have tp := fun (T : Bool) hT W (hc : Cur W (w.heap.size + 1) (.slice (some ⟨b, off, none⟩) n cap) 0 .nilIface) (hb : Below w.heap.size w W) (hsz : W.heap.size = w.heap.size + 2) =>
                  takePacket_long (w.heap.size + 1) n cap b off zs W hc hm y0 _ y2 _ y4 _ _ _ _ b0.1 (by omega) b2.1 (by omega) b4.1 (by omega) ko _ (by omega) hn (ha.below hb (Nat.le_refl _)) hcap (by omega) hw1 hw2 (by omega) kp hkp T hT _ rfl (hTl W hsz hb)
                by_cases hf : 32768 ≤ y4 ∨ 65535 < y4 % 8192 * 8 + (y2 - y0 % 16 * 4)
                · have hC : dpC zs = 1 := by unfold dpC; rw [hR, if_neg (by decide), hI, hW, hFl, if_neg (by omega), if_pos hf]
                  refine decBad zs _ n cap w 1 hC (by decide) he hm ?_ _ _ _ _ _ _ _ _ _ _ _
                  intro W hc hb hsz
                  refine (tp false (by rw [hsp]; rcases hf with h | h; rw [decide_eq_true h]; rfl; rw [decide_eq_false (show ¬ y4 % 8192 * 8 + (kp : Int) ≤ 65535 by omega), Bool.and_false]) W hc hb hsz).mono ?_
                  rintro e w' ⟨p, ao, ap, co, cp, rfl, h1, h2, h3, h4, h5⟩
                  exact ⟨p, _, _, _, _, _, _, _, _, _, _, _, _, _, _, _, rfl, h1, h5⟩
                · have hC : dpC zs = 0 := by unfold dpC; rw [hR, if_neg (by decide), hI, hW, hFl, if_neg (by omega), if_neg hf]
                  have hWn : (dpW zs).toNat - (ihl zs).toNat = kp := by rw [hI, hW]; omega
                  have iI : ∀ x, dpI zs x = x := fun x => by unfold dpI; rw [hC, if_pos rfl]
                  have iB : ∀ x, dpB zs x = x := fun x => by unfold dpB; rw [hC, if_pos rfl]
                  have iL : ∀ x, dpL zs x = x := fun x => by unfold dpL; rw [hC, if_pos rfl]
                  simp only [iI, iB, iL]
                  rw [hC, hWn, hIn, hFl, show 20 + ko - 20 = ko by omega, ← tnum_one zs 1 (by omega), ← tnum_one zs 8 (by omega), ← tnum_one zs 9 (by omega)]
                  exact implDecIP_good _ n cap w y0 _ y2 _ y4 _ _ _ _ ko kp _ _ _ _ (df_bit y4 b4.1 (by omega)) (mf_bit y4 b4.1 (by omega)) (fun W hc hb hsz => tp true (by rw [hsp, decide_eq_false (show ¬ 32768 ≤ y4 by omega), decide_eq_true (show y4 % 8192 * 8 + (kp : Int) ≤ 65535 by omega)]; rfl) W hc hb hsz)
end Go.Proofs.YthbkhfiadkookaaGreatDoor
