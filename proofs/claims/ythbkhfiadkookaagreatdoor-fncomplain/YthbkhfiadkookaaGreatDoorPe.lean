/-
Contracts of functions of this seat.
-/
import Derived.Test.YthbkhfiadkookaaGreatDoorRows
import Derived.WalkKit
import Derived.ProofKit
import Derived.OpenShut
import Derived.Deep.QuietTactic
import Derived.Below
import Derived.Laws.Externs
import Derived.OwnWalk
import Derived.BigQuiet
import Derived.ArgAppend
import Derived.RegionTactic
import Derived.ChangeAlike
import Derived.Laws.IdiomStrings
import Derived.Laws.BytesArg
import Derived.Deep.RegionHeld3
import Derived.Deep.CutRange
import Derived.LaidEql
import Derived.Stop.Asserts
import Derived.RowKitTokens
import Derived.Laws.CopyOwn
import Derived.Laws.OwnMore
import Derived.StillTailTactics
import Derived.Lib.QuietBelow
import Derived.Test.YthbkhfiadkookaaGreatDoorPd
namespace Go.Proofs.YthbkhfiadkookaaGreatDoor
open Go.ChangeShapes Go.WideShapes Go.ChangeAt Go.RowKit
set_option linter.unusedVariables false
set_option maxRecDepth 100000
set_option maxRecDepth 100000
set_option maxHeartbeats 8000000 in
theorem takeHead_short (g F n cap : Nat) (a : Option Addr) (w : World) (hc : Cur w g (.slice a n cap) 0 .nilIface) (hf : FR w F 0 0 0 0 0 0 0 0 0 (.slice none 0 0) (.slice none 0 0)) (hm : n ≤ 1048576) (h20 : n < 20) (hFg : F ≠ g) :
    Calls Tryz.prog 50 #[.pointer (some ⟨F, 0, none⟩), .pointer (some ⟨g, 0, none⟩)] w fun e w' => ∃ (K p : Nat), e = .returned (.tuple #[]) ∧ Cur w' g (.slice a n cap) p (wErr 2) ∧ FR w' F 0 0 0 0 0 0 0 0 0 (.slice (some ⟨K, 0, none⟩) 0 0) (.slice none 0 0) ∧ Only [g, F] w w' ∧ p ≤ n := by
  have HNE : Hid (some g ≠ some F) := hide (by intro e; cases e; exact hFg rfl)
  have HNF : Hid (F ∉ [g]) := hide (by simp [hFg])
  have h20' : decide ((20 : Int) ≤ (n : Int)) = false := decide_eq_false (by omega)
  have CL := hide (left0_walk g n cap a .nilIface w hc (by omega))
  have HC0 := hide hc
  have HF0 := hide hf
  clear hc hf
  go_enter Tryz.func50, Tryz.ntmps50
  go_wp2_with fail
  refine CL.out.mono ?_
  rintro e w1 ⟨rfl, m, rfl⟩
  have HC := hide (Cur.drewN (w := w) HC0.out m)
  have HF := hide (FR.drewN (w := w) HF0.out m)
  have HO : Hid (Only [g, F] w (w.drewN m)) := hide (only_drewN w m)
  clear HC0 HF0 CL
  generalize w.drewN m = W0 at *
  go_wp2_with fail
  refine (demand_no g 0 _ 2 W0 HC.out).mono ?_
  rintro e w2 ⟨rfl, hc2, hg2⟩
  have HF2 := hide (HF.out.only (Only.of_some hg2) HNF.out)
  have HO2 := hide (HO.out.trans (only_g (F := F) hg2))
  have HC2 := hide hc2
  clear hc2 hg2 HC HF HO
  have HC := HC2
  have HF := HF2
  have HO := HO2
  clear HC2 HF2 HO2
  go_wp2_with fail
  refine (take_err g _ n cap a 2 1 w2 HC.out (by omega) (by omega) (by omega) (by omega)).mono ?_
  rintro e u50 ⟨rfl, m50, rfl⟩
  have HF2 := hide (FR.drewN (w := w2) HF.out m50)
  have HO2 := hide (HO.out.trans (only_drewN w2 m50))
  have HC2 := hide (Cur.drewN (w := w2) HC.out m50)
  generalize w2.drewN m50 = U50 at *
  obtain ⟨f0, f1, f2, f3, f4, f5, f6, f7, f8, f9, f10, ff⟩ := HF2.out.cells
  have HF3 := hide (HF2.out.set0 0)
  have HC3 := hide (HC2.out.kept (grown_cell U50 F 0 (.int .i64 0)) HNE.out)
  have HO3 := hide (HO2.out.trans (only_cell (g := g) 0 (.int .i64 0)))
  clear HC HF HO HF2 HO2 HC2
  go_wp2_with fail
  generalize hV : U50.setCell ⟨F, 0, none⟩ (.int .i64 0) = V50 at *
  clear hV f0 f1 f2 f3 f4 f5 f6 f7 f8 f9 f10 ff
  have HC := HC3
  have HF := HF3
  have HO := HO3
  clear HC3 HF3 HO3
  obtain ⟨f0, f1, f2, f3, f4, f5, f6, f7, f8, f9, f10, ff⟩ := HF.out.cells
  refine (version_walk F 0 V50 f0).mono ?_
  rintro e v ⟨rfl, hv⟩
  rw [hv]
  clear hv f0 f1 f2 f3 f4 f5 f6 f7 f8 f9 f10 ff
  go_wp2_with fail
  refine (demand_err g _ _ 2 _ _ V50 HC.out).mono ?_
  rintro e v ⟨rfl, hv⟩
  rw [hv]
  clear hv
  go_wp2_with fail
  have HC2 := hide (Cur.drew (w := V50) HC.out)
  have HF2 := hide (FR.drew (w := V50) HF.out)
  have HO2 := hide (HO.out.trans (only_drew V50))
  refine region_tail 14 (by kernel_rfl) (by kernel_rfl) ?_
  clear HC HF HO
  generalize V50.drew = VQ at *
  have HC := HC2
  have HF := HF2
  have HO := HO2
  clear HC2 HF2 HO2
  obtain ⟨f0, f1, f2, f3, f4, f5, f6, f7, f8, f9, f10, ff⟩ := HF.out.cells
  obtain ⟨c0, c1, c2, cf⟩ := HC.out.cells
  simp only [List.take_succ_cons, List.take_zero, List.drop_succ_cons, List.drop_zero]
  repeat (first | go_big_quiet_skip | (go_big_quiet_want; go_big_quiet_op; first | go_big_quiet_on | (apply Exists.intro; refine ⟨hsize_walk F 0 VQ f0, ?_⟩; go_big_quiet_on)))
  refine wpQuiet_nil ?_
  clear c0 c1 c2 cf f0 f1 f2 f3 f4 f5 f6 f7 f8 f9 f10 ff
  go_wp2_with fail
  refine (demand_err g _ _ 2 _ _ VQ HC.out).mono ?_
  rintro e v ⟨rfl, hv⟩
  rw [hv]
  clear hv
  go_wp2_with fail
  refine (take_err g _ n cap a 2 1 VQ HC.out (by omega) (by omega) (by omega) (by omega)).mono ?_
  rintro e u51 ⟨rfl, m51, rfl⟩
  have HF2 := hide (FR.drewN (w := VQ) HF.out m51)
  have HO2 := hide (HO.out.trans (only_drewN VQ m51))
  have HC2 := hide (Cur.drewN (w := VQ) HC.out m51)
  generalize VQ.drewN m51 = U51 at *
  obtain ⟨f0, f1, f2, f3, f4, f5, f6, f7, f8, f9, f10, ff⟩ := HF2.out.cells
  have HF3 := hide (HF2.out.set1 0)
  have HC3 := hide (HC2.out.kept (grown_cell U51 F 1 (.int .i64 0)) HNE.out)
  have HO3 := hide (HO2.out.trans (only_cell (g := g) 1 (.int .i64 0)))
  clear HC HF HO HF2 HO2 HC2
  go_wp2_with fail
  generalize hV : U51.setCell ⟨F, 1, none⟩ (.int .i64 0) = V51 at *
  clear hV f0 f1 f2 f3 f4 f5 f6 f7 f8 f9 f10 ff
  have HC := HC3
  have HF := HF3
  have HO := HO3
  clear HC3 HF3 HO3
  refine (take_err g _ n cap a 2 2 V51 HC.out (by omega) (by omega) (by omega) (by omega)).mono ?_
  rintro e u52 ⟨rfl, m52, rfl⟩
  have HF2 := hide (FR.drewN (w := V51) HF.out m52)
  have HO2 := hide (HO.out.trans (only_drewN V51 m52))
  have HC2 := hide (Cur.drewN (w := V51) HC.out m52)
  generalize V51.drewN m52 = U52 at *
  obtain ⟨f0, f1, f2, f3, f4, f5, f6, f7, f8, f9, f10, ff⟩ := HF2.out.cells
  have HF3 := hide (HF2.out.set2 0)
  have HC3 := hide (HC2.out.kept (grown_cell U52 F 2 (.int .i64 0)) HNE.out)
  have HO3 := hide (HO2.out.trans (only_cell (g := g) 2 (.int .i64 0)))
  clear HC HF HO HF2 HO2 HC2
  go_wp2_with fail
  generalize hV : U52.setCell ⟨F, 2, none⟩ (.int .i64 0) = V52 at *
  clear hV f0 f1 f2 f3 f4 f5 f6 f7 f8 f9 f10 ff
  have HC := HC3
  have HF := HF3
  have HO := HO3
  clear HC3 HF3 HO3
  refine (take_err g _ n cap a 2 2 V52 HC.out (by omega) (by omega) (by omega) (by omega)).mono ?_
  rintro e u53 ⟨rfl, m53, rfl⟩
  have HF2 := hide (FR.drewN (w := V52) HF.out m53)
  have HO2 := hide (HO.out.trans (only_drewN V52 m53))
  have HC2 := hide (Cur.drewN (w := V52) HC.out m53)
  generalize V52.drewN m53 = U53 at *
  obtain ⟨f0, f1, f2, f3, f4, f5, f6, f7, f8, f9, f10, ff⟩ := HF2.out.cells
  have HF3 := hide (HF2.out.set3 0)
  have HC3 := hide (HC2.out.kept (grown_cell U53 F 3 (.int .i64 0)) HNE.out)
  have HO3 := hide (HO2.out.trans (only_cell (g := g) 3 (.int .i64 0)))
  clear HC HF HO HF2 HO2 HC2
  go_wp2_with fail
  generalize hV : U53.setCell ⟨F, 3, none⟩ (.int .i64 0) = V53 at *
  clear hV f0 f1 f2 f3 f4 f5 f6 f7 f8 f9 f10 ff
  have HC := HC3
  have HF := HF3
  have HO := HO3
  clear HC3 HF3 HO3
  refine (take_err g _ n cap a 2 2 V53 HC.out (by omega) (by omega) (by omega) (by omega)).mono ?_
  rintro e u54 ⟨rfl, m54, rfl⟩
  have HF2 := hide (FR.drewN (w := V53) HF.out m54)
  have HO2 := hide (HO.out.trans (only_drewN V53 m54))
  have HC2 := hide (Cur.drewN (w := V53) HC.out m54)
  generalize V53.drewN m54 = U54 at *
  obtain ⟨f0, f1, f2, f3, f4, f5, f6, f7, f8, f9, f10, ff⟩ := HF2.out.cells
  have HF3 := hide (HF2.out.set4 0)
  have HC3 := hide (HC2.out.kept (grown_cell U54 F 4 (.int .i64 0)) HNE.out)
  have HO3 := hide (HO2.out.trans (only_cell (g := g) 4 (.int .i64 0)))
  clear HC HF HO HF2 HO2 HC2
  go_wp2_with fail
  generalize hV : U54.setCell ⟨F, 4, none⟩ (.int .i64 0) = V54 at *
  clear hV f0 f1 f2 f3 f4 f5 f6 f7 f8 f9 f10 ff
  have HC := HC3
  have HF := HF3
  have HO := HO3
  clear HC3 HF3 HO3
  refine (take_err g _ n cap a 2 1 V54 HC.out (by omega) (by omega) (by omega) (by omega)).mono ?_
  rintro e u55 ⟨rfl, m55, rfl⟩
  have HF2 := hide (FR.drewN (w := V54) HF.out m55)
  have HO2 := hide (HO.out.trans (only_drewN V54 m55))
  have HC2 := hide (Cur.drewN (w := V54) HC.out m55)
  generalize V54.drewN m55 = U55 at *
  obtain ⟨f0, f1, f2, f3, f4, f5, f6, f7, f8, f9, f10, ff⟩ := HF2.out.cells
  have HF3 := hide (HF2.out.set5 0)
  have HC3 := hide (HC2.out.kept (grown_cell U55 F 5 (.int .i64 0)) HNE.out)
  have HO3 := hide (HO2.out.trans (only_cell (g := g) 5 (.int .i64 0)))
  clear HC HF HO HF2 HO2 HC2
  go_wp2_with fail
  generalize hV : U55.setCell ⟨F, 5, none⟩ (.int .i64 0) = V55 at *
  clear hV f0 f1 f2 f3 f4 f5 f6 f7 f8 f9 f10 ff
  have HC := HC3
  have HF := HF3
  have HO := HO3
  clear HC3 HF3 HO3
  refine (take_err g _ n cap a 2 1 V55 HC.out (by omega) (by omega) (by omega) (by omega)).mono ?_
  rintro e u56 ⟨rfl, m56, rfl⟩
  have HF2 := hide (FR.drewN (w := V55) HF.out m56)
  have HO2 := hide (HO.out.trans (only_drewN V55 m56))
  have HC2 := hide (Cur.drewN (w := V55) HC.out m56)
  generalize V55.drewN m56 = U56 at *
  obtain ⟨f0, f1, f2, f3, f4, f5, f6, f7, f8, f9, f10, ff⟩ := HF2.out.cells
  have HF3 := hide (HF2.out.set6 0)
  have HC3 := hide (HC2.out.kept (grown_cell U56 F 6 (.int .i64 0)) HNE.out)
  have HO3 := hide (HO2.out.trans (only_cell (g := g) 6 (.int .i64 0)))
  clear HC HF HO HF2 HO2 HC2
  go_wp2_with fail
  generalize hV : U56.setCell ⟨F, 6, none⟩ (.int .i64 0) = V56 at *
  clear hV f0 f1 f2 f3 f4 f5 f6 f7 f8 f9 f10 ff
  have HC := HC3
  have HF := HF3
  have HO := HO3
  clear HC3 HF3 HO3
  refine (pass_err g _ n cap a 2 2 V56 HC.out (by omega) (by omega) (by omega) (by omega)).mono ?_
  rintro e u57 ⟨rfl, m57, rfl⟩
  have HF2 := hide (FR.drewN (w := V56) HF.out m57)
  have HO2 := hide (HO.out.trans (only_drewN V56 m57))
  have HC2 := hide (Cur.drewN (w := V56) HC.out m57)
  generalize V56.drewN m57 = V57 at *
  clear HC HF HO
  have HC := HC2
  have HF := HF2
  have HO := HO2
  clear HC2 HF2 HO2
  go_wp2_with fail
  refine (take_err g _ n cap a 2 4 V57 HC.out (by omega) (by omega) (by omega) (by omega)).mono ?_
  rintro e u58 ⟨rfl, m58, rfl⟩
  have HF2 := hide (FR.drewN (w := V57) HF.out m58)
  have HO2 := hide (HO.out.trans (only_drewN V57 m58))
  have HC2 := hide (Cur.drewN (w := V57) HC.out m58)
  generalize V57.drewN m58 = U58 at *
  obtain ⟨f0, f1, f2, f3, f4, f5, f6, f7, f8, f9, f10, ff⟩ := HF2.out.cells
  have HF3 := hide (HF2.out.set7 0)
  have HC3 := hide (HC2.out.kept (grown_cell U58 F 7 (.int .i64 0)) HNE.out)
  have HO3 := hide (HO2.out.trans (only_cell (g := g) 7 (.int .i64 0)))
  clear HC HF HO HF2 HO2 HC2
  go_wp2_with fail
  generalize hV : U58.setCell ⟨F, 7, none⟩ (.int .i64 0) = V58 at *
  clear hV f0 f1 f2 f3 f4 f5 f6 f7 f8 f9 f10 ff
  have HC := HC3
  have HF := HF3
  have HO := HO3
  clear HC3 HF3 HO3
  refine (take_err g _ n cap a 2 4 V58 HC.out (by omega) (by omega) (by omega) (by omega)).mono ?_
  rintro e u59 ⟨rfl, m59, rfl⟩
  have HF2 := hide (FR.drewN (w := V58) HF.out m59)
  have HO2 := hide (HO.out.trans (only_drewN V58 m59))
  have HC2 := hide (Cur.drewN (w := V58) HC.out m59)
  generalize V58.drewN m59 = U59 at *
  obtain ⟨f0, f1, f2, f3, f4, f5, f6, f7, f8, f9, f10, ff⟩ := HF2.out.cells
  have HF3 := hide (HF2.out.set8 0)
  have HC3 := hide (HC2.out.kept (grown_cell U59 F 8 (.int .i64 0)) HNE.out)
  have HO3 := hide (HO2.out.trans (only_cell (g := g) 8 (.int .i64 0)))
  clear HC HF HO HF2 HO2 HC2
  go_wp2_with fail
  generalize hV : U59.setCell ⟨F, 8, none⟩ (.int .i64 0) = V59 at *
  clear hV f0 f1 f2 f3 f4 f5 f6 f7 f8 f9 f10 ff
  have HC := HC3
  have HF := HF3
  have HO := HO3
  clear HC3 HF3 HO3
  obtain ⟨f0, f1, f2, f3, f4, f5, f6, f7, f8, f9, f10, ff⟩ := HF.out.cells
  refine (hsize_walk F 0 V59 f0).mono ?_
  rintro e v ⟨rfl, hv⟩
  rw [hv]
  clear hv f0 f1 f2 f3 f4 f5 f6 f7 f8 f9 f10 ff
  go_wp2_with fail
  refine (takeBytes_err g _ n cap a 2 _ V59 HC.out (by omega) (by omega) (by omega) (by omega)).mono ?_
  rintro e U ⟨rfl, hbU⟩
  have HF2 := hide (HF.out.only (Only.of_below (S := [g]) hbU) HNF.out)
  have HO2 := hide (HO.out.trans (Only.of_below hbU))
  have HC2 := hide (HC.out.below hbU HC.out.lt)
  clear HC HF HO hbU
  generalize V59.heap.size = K at *
  obtain ⟨f0, f1, f2, f3, f4, f5, f6, f7, f8, f9, f10, ff⟩ := HF2.out.cells
  have HF3 := hide (HF2.out.set9 (.slice (some ⟨K, 0, none⟩) 0 0))
  have HC3 := hide (HC2.out.kept (grown_cell U F 9 (.slice (some ⟨K, 0, none⟩) 0 0)) HNE.out)
  have HO3 := hide (HO2.out.trans (only_cell (g := g) 9 (.slice (some ⟨K, 0, none⟩) 0 0)))
  clear HF2 HO2 HC2
  go_wp2_with fail
  generalize hV : U.setCell ⟨F, 9, none⟩ (.slice (some ⟨K, 0, none⟩) 0 0) = V at *
  clear hV f0 f1 f2 f3 f4 f5 f6 f7 f8 f9 f10 ff
  refine (passed_zero g n cap a (wErr 2) V HC3.out).mono ?_
  rintro e v ⟨⟨a2, rfl⟩, mp, rfl⟩
  go_wp2_with fail
  refine (checksum_walk a2 0 cap [] _ rfl ⟨by simp, fun j hj => by simp at hj⟩ (by omega)).mono ?_
  rintro e X ⟨rfl, hbk, _⟩
  have hbX : Below V.heap.size V X := ⟨hbk.os, hbk.tape, hbk.output, hbk.size, hbk.block⟩
  have HF4 := hide (HF3.out.only (Only.of_below (S := [g]) hbX) HNF.out)
  have HO4 := hide (HO3.out.trans (Only.of_below hbX))
  have HC4 := hide (HC3.out.below hbX HC3.out.lt)
  clear HC3 HF3 HO3 hbk hbX
  go_wp2_with fail
  refine (demand_err g _ _ 2 _ _ X HC4.out).mono ?_
  rintro e v ⟨rfl, hv⟩
  rw [hv]
  clear hv
  go_wp2_with fail
  go_end0
  exact ⟨_, 0, rfl, HC4.out, HF4.out, HO4.out, by omega⟩

set_option maxHeartbeats 8000000 in
theorem takeHead_version (g F n cap b off : Nat) (zs : List Int) (w : World) (hc : Cur w g (.slice (some ⟨b, off, none⟩) n cap) 0 .nilIface) (hf : FR w F 0 0 0 0 0 0 0 0 0 (.slice none 0 0) (.slice none 0 0)) (hn : zs.length = n) (ha : Arr w (some ⟨b, off, none⟩) zs) (hm : n ≤ 1048576) (hcap : n ≤ cap) (h20 : 20 ≤ n) (hbg : b ≠ g) (hbF : b ≠ F) (hFg : F ≠ g) (y0 : Int) (hy0 : y0 = tnum ((zs.drop 0).take 1)) (hb0 : 0 ≤ y0) (hb1 : y0 ≤ 255) (hv : (y0 / 16 == 4) = false) :
    Calls Tryz.prog 50 #[.pointer (some ⟨F, 0, none⟩), .pointer (some ⟨g, 0, none⟩)] w fun e w' => ∃ (K p : Nat), e = .returned (.tuple #[]) ∧ Cur w' g (.slice (some ⟨b, off, none⟩) n cap) p (wErr 4) ∧ FR w' F y0 0 0 0 0 0 0 0 0 (.slice (some ⟨K, 0, none⟩) 0 0) (.slice none 0 0) ∧ Only [g, F] w w' ∧ p ≤ n := by
  have HA := hide ha
  have HN := hide hn
  have HNE : Hid (some g ≠ some F) := hide (by intro e; cases e; exact hFg rfl)
  have HNF : Hid (F ∉ [g]) := hide (by simp [hFg])
  have HAN : Hid (∀ j, j < zs.length → ∃ b' off', (some ⟨b, off, none⟩ : Option Addr) = some ⟨b', off', none⟩ ∧ b' ∉ [g, F]) := hide (fun j hj => ⟨b, off, rfl, by simp [hbg, hbF]⟩)
  have h20' : (20 : Int) ≤ (n : Int) := by omega
  have HY0 := hide hy0
  clear ha hn hy0
  have CL := hide (left0_walk g n cap (some ⟨b, off, none⟩) .nilIface w hc (by omega))
  have HC0 := hide hc
  have HF0 := hide hf
  clear hc hf
  go_enter Tryz.func50, Tryz.ntmps50
  go_wp2_with fail
  refine CL.out.mono ?_
  rintro e w1 ⟨rfl, m, rfl⟩
  have HC := hide (Cur.drewN (w := w) HC0.out m)
  have HF := hide (FR.drewN (w := w) HF0.out m)
  have HO : Hid (Only [g, F] w (w.drewN m)) := hide (only_drewN w m)
  clear HC0 HF0 CL
  generalize w.drewN m = W0 at *
  go_wp2_with fail
  refine (demand_yes g 0 _ 2 W0 HC.out).mono ?_
  rintro e v ⟨rfl, hv⟩
  rw [hv]
  clear hv
  go_wp2_with fail
  have t1 := tk1 g 0 n cap b off zs W0 HC.out (by omega) (by omega) hcap HN.out (arr_only HA.out HO.out HAN.out) hbg
  rw [show tnum ((zs.drop 0).take 1) = y0 from HY0.out.symm] at t1
  have T1 := hide t1
  clear t1
  refine T1.out.mono ?_
  rintro e u50 ⟨rfl, hc2, hg2⟩
  have HF2 := hide (HF.out.only (Only.of_some hg2) HNF.out)
  have HO2 := hide (HO.out.trans (only_g (F := F) hg2))
  obtain ⟨f0, f1, f2, f3, f4, f5, f6, f7, f8, f9, f10, ff⟩ := HF2.out.cells
  have HF3 := hide (HF2.out.set0 y0)
  have HC3 : Hid (Cur (u50.setCell ⟨F, 0, none⟩ (.int .i64 y0)) g (.slice (some ⟨b, off, none⟩) n cap) 1 .nilIface) := hide (hc2.kept (grown_cell u50 F 0 _) HNE.out)
  have HO3 := hide (HO2.out.trans (only_cell (g := g) 0 (.int .i64 y0)))
  clear T1 hc2 hg2 HC HF HO HF2 HO2
  go_wp2_with fail
  generalize hV : u50.setCell ⟨F, 0, none⟩ (.int .i64 y0) = V50 at *
  clear hV f0 f1 f2 f3 f4 f5 f6 f7 f8 f9 f10 ff
  have HC := HC3
  have HF := HF3
  have HO := HO3
  clear HC3 HF3 HO3
  obtain ⟨f0, f1, f2, f3, f4, f5, f6, f7, f8, f9, f10, ff⟩ := HF.out.cells
  refine (version_walk F y0 V50 f0).mono ?_
  rintro e v ⟨rfl, hv⟩
  rw [hv]
  clear hv f0 f1 f2 f3 f4 f5 f6 f7 f8 f9 f10 ff
  go_wp2_with fail
  refine (demand_no g _ _ 4 V50 HC.out).mono ?_
  rintro e V51 ⟨rfl, hc2, hg2⟩
  have HF2 := hide (HF.out.only (Only.of_some hg2) HNF.out)
  have HO2 := hide (HO.out.trans (only_g (F := F) hg2))
  have HC2 := hide hc2
  clear hc2 hg2 HC HF HO
  have HC := HC2
  have HF := HF2
  have HO := HO2
  clear HC2 HF2 HO2
  go_wp2_with fail
  by_cases hs : (20 : Int) ≤ y0 % 16 * 4
  · have HC2 := hide (Cur.drew (w := V51) HC.out)
    have HF2 := hide (FR.drew (w := V51) HF.out)
    have HO2 := hide (HO.out.trans (only_drew V51))
    refine region_tail 14 (by kernel_rfl) (by kernel_rfl) ?_
    clear HC HF HO
    generalize V51.drew = VQ at *
    have HC := HC2
    have HF := HF2
    have HO := HO2
    clear HC2 HF2 HO2
    obtain ⟨f0, f1, f2, f3, f4, f5, f6, f7, f8, f9, f10, ff⟩ := HF.out.cells
    obtain ⟨c0, c1, c2, cf⟩ := HC.out.cells
    simp only [List.take_succ_cons, List.take_zero, List.drop_succ_cons, List.drop_zero]
    repeat (first | go_big_quiet_skip | (go_big_quiet_want; go_big_quiet_op; first | go_big_quiet_on | (apply Exists.intro; refine ⟨hsize_walk F y0 VQ f0, ?_⟩; go_big_quiet_on)))
    refine wpQuiet_nil ?_
    clear c0 c1 c2 cf f0 f1 f2 f3 f4 f5 f6 f7 f8 f9 f10 ff
    go_wp2_with fail
    refine (demand_err g _ _ 4 _ _ VQ HC.out).mono ?_
    rintro e v ⟨rfl, hv⟩
    rw [hv]
    clear hv
    go_wp2_with fail
    refine (take_err g _ n cap (some ⟨b, off, none⟩) 4 1 VQ HC.out (by omega) (by omega) (by omega) (by omega)).mono ?_
    rintro e u60 ⟨rfl, m60, rfl⟩
    have HF2 := hide (FR.drewN (w := VQ) HF.out m60)
    have HO2 := hide (HO.out.trans (only_drewN VQ m60))
    have HC2 := hide (Cur.drewN (w := VQ) HC.out m60)
    generalize VQ.drewN m60 = U60 at *
    obtain ⟨f0, f1, f2, f3, f4, f5, f6, f7, f8, f9, f10, ff⟩ := HF2.out.cells
    have HF3 := hide (HF2.out.set1 0)
    have HC3 := hide (HC2.out.kept (grown_cell U60 F 1 (.int .i64 0)) HNE.out)
    have HO3 := hide (HO2.out.trans (only_cell (g := g) 1 (.int .i64 0)))
    clear HC HF HO HF2 HO2 HC2
    go_wp2_with fail
    generalize hV : U60.setCell ⟨F, 1, none⟩ (.int .i64 0) = V60 at *
    clear hV f0 f1 f2 f3 f4 f5 f6 f7 f8 f9 f10 ff
    have HC := HC3
    have HF := HF3
    have HO := HO3
    clear HC3 HF3 HO3
    refine (take_err g _ n cap (some ⟨b, off, none⟩) 4 2 V60 HC.out (by omega) (by omega) (by omega) (by omega)).mono ?_
    rintro e u61 ⟨rfl, m61, rfl⟩
    have HF2 := hide (FR.drewN (w := V60) HF.out m61)
    have HO2 := hide (HO.out.trans (only_drewN V60 m61))
    have HC2 := hide (Cur.drewN (w := V60) HC.out m61)
    generalize V60.drewN m61 = U61 at *
    obtain ⟨f0, f1, f2, f3, f4, f5, f6, f7, f8, f9, f10, ff⟩ := HF2.out.cells
    have HF3 := hide (HF2.out.set2 0)
    have HC3 := hide (HC2.out.kept (grown_cell U61 F 2 (.int .i64 0)) HNE.out)
    have HO3 := hide (HO2.out.trans (only_cell (g := g) 2 (.int .i64 0)))
    clear HC HF HO HF2 HO2 HC2
    go_wp2_with fail
    generalize hV : U61.setCell ⟨F, 2, none⟩ (.int .i64 0) = V61 at *
    clear hV f0 f1 f2 f3 f4 f5 f6 f7 f8 f9 f10 ff
    have HC := HC3
    have HF := HF3
    have HO := HO3
    clear HC3 HF3 HO3
    refine (take_err g _ n cap (some ⟨b, off, none⟩) 4 2 V61 HC.out (by omega) (by omega) (by omega) (by omega)).mono ?_
    rintro e u62 ⟨rfl, m62, rfl⟩
    have HF2 := hide (FR.drewN (w := V61) HF.out m62)
    have HO2 := hide (HO.out.trans (only_drewN V61 m62))
    have HC2 := hide (Cur.drewN (w := V61) HC.out m62)
    generalize V61.drewN m62 = U62 at *
    obtain ⟨f0, f1, f2, f3, f4, f5, f6, f7, f8, f9, f10, ff⟩ := HF2.out.cells
    have HF3 := hide (HF2.out.set3 0)
    have HC3 := hide (HC2.out.kept (grown_cell U62 F 3 (.int .i64 0)) HNE.out)
    have HO3 := hide (HO2.out.trans (only_cell (g := g) 3 (.int .i64 0)))
    clear HC HF HO HF2 HO2 HC2
    go_wp2_with fail
    generalize hV : U62.setCell ⟨F, 3, none⟩ (.int .i64 0) = V62 at *
    clear hV f0 f1 f2 f3 f4 f5 f6 f7 f8 f9 f10 ff
    have HC := HC3
    have HF := HF3
    have HO := HO3
    clear HC3 HF3 HO3
    refine (take_err g _ n cap (some ⟨b, off, none⟩) 4 2 V62 HC.out (by omega) (by omega) (by omega) (by omega)).mono ?_
    rintro e u63 ⟨rfl, m63, rfl⟩
    have HF2 := hide (FR.drewN (w := V62) HF.out m63)
    have HO2 := hide (HO.out.trans (only_drewN V62 m63))
    have HC2 := hide (Cur.drewN (w := V62) HC.out m63)
    generalize V62.drewN m63 = U63 at *
    obtain ⟨f0, f1, f2, f3, f4, f5, f6, f7, f8, f9, f10, ff⟩ := HF2.out.cells
    have HF3 := hide (HF2.out.set4 0)
    have HC3 := hide (HC2.out.kept (grown_cell U63 F 4 (.int .i64 0)) HNE.out)
    have HO3 := hide (HO2.out.trans (only_cell (g := g) 4 (.int .i64 0)))
    clear HC HF HO HF2 HO2 HC2
    go_wp2_with fail
    generalize hV : U63.setCell ⟨F, 4, none⟩ (.int .i64 0) = V63 at *
    clear hV f0 f1 f2 f3 f4 f5 f6 f7 f8 f9 f10 ff
    have HC := HC3
    have HF := HF3
    have HO := HO3
    clear HC3 HF3 HO3
    refine (take_err g _ n cap (some ⟨b, off, none⟩) 4 1 V63 HC.out (by omega) (by omega) (by omega) (by omega)).mono ?_
    rintro e u64 ⟨rfl, m64, rfl⟩
    have HF2 := hide (FR.drewN (w := V63) HF.out m64)
    have HO2 := hide (HO.out.trans (only_drewN V63 m64))
    have HC2 := hide (Cur.drewN (w := V63) HC.out m64)
    generalize V63.drewN m64 = U64 at *
    obtain ⟨f0, f1, f2, f3, f4, f5, f6, f7, f8, f9, f10, ff⟩ := HF2.out.cells
    have HF3 := hide (HF2.out.set5 0)
    have HC3 := hide (HC2.out.kept (grown_cell U64 F 5 (.int .i64 0)) HNE.out)
    have HO3 := hide (HO2.out.trans (only_cell (g := g) 5 (.int .i64 0)))
    clear HC HF HO HF2 HO2 HC2
    go_wp2_with fail
    generalize hV : U64.setCell ⟨F, 5, none⟩ (.int .i64 0) = V64 at *
    clear hV f0 f1 f2 f3 f4 f5 f6 f7 f8 f9 f10 ff
    have HC := HC3
    have HF := HF3
    have HO := HO3
    clear HC3 HF3 HO3
    refine (take_err g _ n cap (some ⟨b, off, none⟩) 4 1 V64 HC.out (by omega) (by omega) (by omega) (by omega)).mono ?_
    rintro e u65 ⟨rfl, m65, rfl⟩
    have HF2 := hide (FR.drewN (w := V64) HF.out m65)
    have HO2 := hide (HO.out.trans (only_drewN V64 m65))
    have HC2 := hide (Cur.drewN (w := V64) HC.out m65)
    generalize V64.drewN m65 = U65 at *
    obtain ⟨f0, f1, f2, f3, f4, f5, f6, f7, f8, f9, f10, ff⟩ := HF2.out.cells
    have HF3 := hide (HF2.out.set6 0)
    have HC3 := hide (HC2.out.kept (grown_cell U65 F 6 (.int .i64 0)) HNE.out)
    have HO3 := hide (HO2.out.trans (only_cell (g := g) 6 (.int .i64 0)))
    clear HC HF HO HF2 HO2 HC2
    go_wp2_with fail
    generalize hV : U65.setCell ⟨F, 6, none⟩ (.int .i64 0) = V65 at *
    clear hV f0 f1 f2 f3 f4 f5 f6 f7 f8 f9 f10 ff
    have HC := HC3
    have HF := HF3
    have HO := HO3
    clear HC3 HF3 HO3
    refine (pass_err g _ n cap (some ⟨b, off, none⟩) 4 2 V65 HC.out (by omega) (by omega) (by omega) (by omega)).mono ?_
    rintro e u66 ⟨rfl, m66, rfl⟩
    have HF2 := hide (FR.drewN (w := V65) HF.out m66)
    have HO2 := hide (HO.out.trans (only_drewN V65 m66))
    have HC2 := hide (Cur.drewN (w := V65) HC.out m66)
    generalize V65.drewN m66 = V66 at *
    clear HC HF HO
    have HC := HC2
    have HF := HF2
    have HO := HO2
    clear HC2 HF2 HO2
    go_wp2_with fail
    refine (take_err g _ n cap (some ⟨b, off, none⟩) 4 4 V66 HC.out (by omega) (by omega) (by omega) (by omega)).mono ?_
    rintro e u67 ⟨rfl, m67, rfl⟩
    have HF2 := hide (FR.drewN (w := V66) HF.out m67)
    have HO2 := hide (HO.out.trans (only_drewN V66 m67))
    have HC2 := hide (Cur.drewN (w := V66) HC.out m67)
    generalize V66.drewN m67 = U67 at *
    obtain ⟨f0, f1, f2, f3, f4, f5, f6, f7, f8, f9, f10, ff⟩ := HF2.out.cells
    have HF3 := hide (HF2.out.set7 0)
    have HC3 := hide (HC2.out.kept (grown_cell U67 F 7 (.int .i64 0)) HNE.out)
    have HO3 := hide (HO2.out.trans (only_cell (g := g) 7 (.int .i64 0)))
    clear HC HF HO HF2 HO2 HC2
    go_wp2_with fail
    generalize hV : U67.setCell ⟨F, 7, none⟩ (.int .i64 0) = V67 at *
    clear hV f0 f1 f2 f3 f4 f5 f6 f7 f8 f9 f10 ff
    have HC := HC3
    have HF := HF3
    have HO := HO3
    clear HC3 HF3 HO3
    refine (take_err g _ n cap (some ⟨b, off, none⟩) 4 4 V67 HC.out (by omega) (by omega) (by omega) (by omega)).mono ?_
    rintro e u68 ⟨rfl, m68, rfl⟩
    have HF2 := hide (FR.drewN (w := V67) HF.out m68)
    have HO2 := hide (HO.out.trans (only_drewN V67 m68))
    have HC2 := hide (Cur.drewN (w := V67) HC.out m68)
    generalize V67.drewN m68 = U68 at *
    obtain ⟨f0, f1, f2, f3, f4, f5, f6, f7, f8, f9, f10, ff⟩ := HF2.out.cells
    have HF3 := hide (HF2.out.set8 0)
    have HC3 := hide (HC2.out.kept (grown_cell U68 F 8 (.int .i64 0)) HNE.out)
    have HO3 := hide (HO2.out.trans (only_cell (g := g) 8 (.int .i64 0)))
    clear HC HF HO HF2 HO2 HC2
    go_wp2_with fail
    generalize hV : U68.setCell ⟨F, 8, none⟩ (.int .i64 0) = V68 at *
    clear hV f0 f1 f2 f3 f4 f5 f6 f7 f8 f9 f10 ff
    have HC := HC3
    have HF := HF3
    have HO := HO3
    clear HC3 HF3 HO3
    obtain ⟨f0, f1, f2, f3, f4, f5, f6, f7, f8, f9, f10, ff⟩ := HF.out.cells
    refine (hsize_walk F y0 V68 f0).mono ?_
    rintro e v ⟨rfl, hv⟩
    rw [hv]
    clear hv f0 f1 f2 f3 f4 f5 f6 f7 f8 f9 f10 ff
    go_wp2_with fail
    refine (takeBytes_err g _ n cap (some ⟨b, off, none⟩) 4 _ V68 HC.out (by omega) (by omega) (by omega) (by omega)).mono ?_
    rintro e U ⟨rfl, hbU⟩
    have HF2 := hide (HF.out.only (Only.of_below (S := [g]) hbU) HNF.out)
    have HO2 := hide (HO.out.trans (Only.of_below hbU))
    have HC2 := hide (HC.out.below hbU HC.out.lt)
    clear HC HF HO hbU
    generalize V68.heap.size = K at *
    obtain ⟨f0, f1, f2, f3, f4, f5, f6, f7, f8, f9, f10, ff⟩ := HF2.out.cells
    have HF3 := hide (HF2.out.set9 (.slice (some ⟨K, 0, none⟩) 0 0))
    have HC3 := hide (HC2.out.kept (grown_cell U F 9 (.slice (some ⟨K, 0, none⟩) 0 0)) HNE.out)
    have HO3 := hide (HO2.out.trans (only_cell (g := g) 9 (.slice (some ⟨K, 0, none⟩) 0 0)))
    clear HF2 HO2 HC2
    go_wp2_with fail
    generalize hV : U.setCell ⟨F, 9, none⟩ (.slice (some ⟨K, 0, none⟩) 0 0) = V at *
    clear hV f0 f1 f2 f3 f4 f5 f6 f7 f8 f9 f10 ff
    refine (passed_walk g 1 n cap b off (wErr 4) V HC3.out (by omega) (by omega)).mono ?_
    rintro e v ⟨rfl, mp, rfl⟩
    go_wp2_with fail
    refine (checksum_walk (some ⟨b, off, none⟩) 1 cap (zs.take 1) _ (by rw [List.length_take, HN.out]; omega) (show Arr (V.drewN mp) _ _ from (arr_only HA.out HO3.out HAN.out).take 1) (by omega)).mono ?_
    rintro e X ⟨rfl, hbk, _⟩
    have hbX : Below V.heap.size V X := ⟨hbk.os, hbk.tape, hbk.output, hbk.size, hbk.block⟩
    have HF4 := hide (HF3.out.only (Only.of_below (S := [g]) hbX) HNF.out)
    have HO4 := hide (HO3.out.trans (Only.of_below hbX))
    have HC4 := hide (HC3.out.below hbX HC3.out.lt)
    clear HC3 HF3 HO3 hbk hbX
    go_wp2_with fail
    refine (demand_err g _ _ 4 _ _ X HC4.out).mono ?_
    rintro e v ⟨rfl, hv⟩
    rw [hv]
    clear hv
    go_wp2_with fail
    go_end0
    exact ⟨_, 1, rfl, HC4.out, HF4.out, HO4.out, by omega⟩
  · have hs' : decide ((20 : Int) ≤ y0 % 16 * 4) = false := decide_eq_false hs
    clear hs
    have HC2 := hide (Cur.drew (w := V51) HC.out)
    have HF2 := hide (FR.drew (w := V51) HF.out)
    have HO2 := hide (HO.out.trans (only_drew V51))
    refine region_tail 14 (by kernel_rfl) (by kernel_rfl) ?_
    clear HC HF HO
    generalize V51.drew = VQ at *
    have HC := HC2
    have HF := HF2
    have HO := HO2
    clear HC2 HF2 HO2
    obtain ⟨f0, f1, f2, f3, f4, f5, f6, f7, f8, f9, f10, ff⟩ := HF.out.cells
    obtain ⟨c0, c1, c2, cf⟩ := HC.out.cells
    simp only [List.take_succ_cons, List.take_zero, List.drop_succ_cons, List.drop_zero]
    repeat (first | go_big_quiet_skip | (go_big_quiet_want; go_big_quiet_op; first | go_big_quiet_on | (apply Exists.intro; refine ⟨hsize_walk F y0 VQ f0, ?_⟩; go_big_quiet_on)))
    refine wpQuiet_nil ?_
    clear c0 c1 c2 cf f0 f1 f2 f3 f4 f5 f6 f7 f8 f9 f10 ff
    go_wp2_with fail
    refine (demand_err g _ _ 4 _ _ VQ HC.out).mono ?_
    rintro e v ⟨rfl, hv⟩
    rw [hv]
    clear hv
    go_wp2_with fail
    refine (take_err g _ n cap (some ⟨b, off, none⟩) 4 1 VQ HC.out (by omega) (by omega) (by omega) (by omega)).mono ?_
    rintro e u60 ⟨rfl, m60, rfl⟩
    have HF2 := hide (FR.drewN (w := VQ) HF.out m60)
    have HO2 := hide (HO.out.trans (only_drewN VQ m60))
    have HC2 := hide (Cur.drewN (w := VQ) HC.out m60)
    generalize VQ.drewN m60 = U60 at *
    obtain ⟨f0, f1, f2, f3, f4, f5, f6, f7, f8, f9, f10, ff⟩ := HF2.out.cells
    have HF3 := hide (HF2.out.set1 0)
    have HC3 := hide (HC2.out.kept (grown_cell U60 F 1 (.int .i64 0)) HNE.out)
    have HO3 := hide (HO2.out.trans (only_cell (g := g) 1 (.int .i64 0)))
    clear HC HF HO HF2 HO2 HC2
    go_wp2_with fail
    generalize hV : U60.setCell ⟨F, 1, none⟩ (.int .i64 0) = V60 at *
    clear hV f0 f1 f2 f3 f4 f5 f6 f7 f8 f9 f10 ff
    have HC := HC3
    have HF := HF3
    have HO := HO3
    clear HC3 HF3 HO3
    refine (take_err g _ n cap (some ⟨b, off, none⟩) 4 2 V60 HC.out (by omega) (by omega) (by omega) (by omega)).mono ?_
    rintro e u61 ⟨rfl, m61, rfl⟩
    have HF2 := hide (FR.drewN (w := V60) HF.out m61)
    have HO2 := hide (HO.out.trans (only_drewN V60 m61))
    have HC2 := hide (Cur.drewN (w := V60) HC.out m61)
    generalize V60.drewN m61 = U61 at *
    obtain ⟨f0, f1, f2, f3, f4, f5, f6, f7, f8, f9, f10, ff⟩ := HF2.out.cells
    have HF3 := hide (HF2.out.set2 0)
    have HC3 := hide (HC2.out.kept (grown_cell U61 F 2 (.int .i64 0)) HNE.out)
    have HO3 := hide (HO2.out.trans (only_cell (g := g) 2 (.int .i64 0)))
    clear HC HF HO HF2 HO2 HC2
    go_wp2_with fail
    generalize hV : U61.setCell ⟨F, 2, none⟩ (.int .i64 0) = V61 at *
    clear hV f0 f1 f2 f3 f4 f5 f6 f7 f8 f9 f10 ff
    have HC := HC3
    have HF := HF3
    have HO := HO3
    clear HC3 HF3 HO3
    refine (take_err g _ n cap (some ⟨b, off, none⟩) 4 2 V61 HC.out (by omega) (by omega) (by omega) (by omega)).mono ?_
    rintro e u62 ⟨rfl, m62, rfl⟩
    have HF2 := hide (FR.drewN (w := V61) HF.out m62)
    have HO2 := hide (HO.out.trans (only_drewN V61 m62))
    have HC2 := hide (Cur.drewN (w := V61) HC.out m62)
    generalize V61.drewN m62 = U62 at *
    obtain ⟨f0, f1, f2, f3, f4, f5, f6, f7, f8, f9, f10, ff⟩ := HF2.out.cells
    have HF3 := hide (HF2.out.set3 0)
    have HC3 := hide (HC2.out.kept (grown_cell U62 F 3 (.int .i64 0)) HNE.out)
    have HO3 := hide (HO2.out.trans (only_cell (g := g) 3 (.int .i64 0)))
    clear HC HF HO HF2 HO2 HC2
    go_wp2_with fail
    generalize hV : U62.setCell ⟨F, 3, none⟩ (.int .i64 0) = V62 at *
    clear hV f0 f1 f2 f3 f4 f5 f6 f7 f8 f9 f10 ff
    have HC := HC3
    have HF := HF3
    have HO := HO3
    clear HC3 HF3 HO3
    refine (take_err g _ n cap (some ⟨b, off, none⟩) 4 2 V62 HC.out (by omega) (by omega) (by omega) (by omega)).mono ?_
    rintro e u63 ⟨rfl, m63, rfl⟩
    have HF2 := hide (FR.drewN (w := V62) HF.out m63)
    have HO2 := hide (HO.out.trans (only_drewN V62 m63))
    have HC2 := hide (Cur.drewN (w := V62) HC.out m63)
    generalize V62.drewN m63 = U63 at *
    obtain ⟨f0, f1, f2, f3, f4, f5, f6, f7, f8, f9, f10, ff⟩ := HF2.out.cells
    have HF3 := hide (HF2.out.set4 0)
    have HC3 := hide (HC2.out.kept (grown_cell U63 F 4 (.int .i64 0)) HNE.out)
    have HO3 := hide (HO2.out.trans (only_cell (g := g) 4 (.int .i64 0)))
    clear HC HF HO HF2 HO2 HC2
    go_wp2_with fail
    generalize hV : U63.setCell ⟨F, 4, none⟩ (.int .i64 0) = V63 at *
    clear hV f0 f1 f2 f3 f4 f5 f6 f7 f8 f9 f10 ff
    have HC := HC3
    have HF := HF3
    have HO := HO3
    clear HC3 HF3 HO3
    refine (take_err g _ n cap (some ⟨b, off, none⟩) 4 1 V63 HC.out (by omega) (by omega) (by omega) (by omega)).mono ?_
    rintro e u64 ⟨rfl, m64, rfl⟩
    have HF2 := hide (FR.drewN (w := V63) HF.out m64)
    have HO2 := hide (HO.out.trans (only_drewN V63 m64))
    have HC2 := hide (Cur.drewN (w := V63) HC.out m64)
    generalize V63.drewN m64 = U64 at *
    obtain ⟨f0, f1, f2, f3, f4, f5, f6, f7, f8, f9, f10, ff⟩ := HF2.out.cells
    have HF3 := hide (HF2.out.set5 0)
    have HC3 := hide (HC2.out.kept (grown_cell U64 F 5 (.int .i64 0)) HNE.out)
    have HO3 := hide (HO2.out.trans (only_cell (g := g) 5 (.int .i64 0)))
    clear HC HF HO HF2 HO2 HC2
    go_wp2_with fail
    generalize hV : U64.setCell ⟨F, 5, none⟩ (.int .i64 0) = V64 at *
    clear hV f0 f1 f2 f3 f4 f5 f6 f7 f8 f9 f10 ff
    have HC := HC3
    have HF := HF3
    have HO := HO3
    clear HC3 HF3 HO3
    refine (take_err g _ n cap (some ⟨b, off, none⟩) 4 1 V64 HC.out (by omega) (by omega) (by omega) (by omega)).mono ?_
    rintro e u65 ⟨rfl, m65, rfl⟩
    have HF2 := hide (FR.drewN (w := V64) HF.out m65)
    have HO2 := hide (HO.out.trans (only_drewN V64 m65))
    have HC2 := hide (Cur.drewN (w := V64) HC.out m65)
    generalize V64.drewN m65 = U65 at *
    obtain ⟨f0, f1, f2, f3, f4, f5, f6, f7, f8, f9, f10, ff⟩ := HF2.out.cells
    have HF3 := hide (HF2.out.set6 0)
    have HC3 := hide (HC2.out.kept (grown_cell U65 F 6 (.int .i64 0)) HNE.out)
    have HO3 := hide (HO2.out.trans (only_cell (g := g) 6 (.int .i64 0)))
    clear HC HF HO HF2 HO2 HC2
    go_wp2_with fail
    generalize hV : U65.setCell ⟨F, 6, none⟩ (.int .i64 0) = V65 at *
    clear hV f0 f1 f2 f3 f4 f5 f6 f7 f8 f9 f10 ff
    have HC := HC3
    have HF := HF3
    have HO := HO3
    clear HC3 HF3 HO3
    refine (pass_err g _ n cap (some ⟨b, off, none⟩) 4 2 V65 HC.out (by omega) (by omega) (by omega) (by omega)).mono ?_
    rintro e u66 ⟨rfl, m66, rfl⟩
    have HF2 := hide (FR.drewN (w := V65) HF.out m66)
    have HO2 := hide (HO.out.trans (only_drewN V65 m66))
    have HC2 := hide (Cur.drewN (w := V65) HC.out m66)
    generalize V65.drewN m66 = V66 at *
    clear HC HF HO
    have HC := HC2
    have HF := HF2
    have HO := HO2
    clear HC2 HF2 HO2
    go_wp2_with fail
    refine (take_err g _ n cap (some ⟨b, off, none⟩) 4 4 V66 HC.out (by omega) (by omega) (by omega) (by omega)).mono ?_
    rintro e u67 ⟨rfl, m67, rfl⟩
    have HF2 := hide (FR.drewN (w := V66) HF.out m67)
    have HO2 := hide (HO.out.trans (only_drewN V66 m67))
    have HC2 := hide (Cur.drewN (w := V66) HC.out m67)
    generalize V66.drewN m67 = U67 at *
    obtain ⟨f0, f1, f2, f3, f4, f5, f6, f7, f8, f9, f10, ff⟩ := HF2.out.cells
    have HF3 := hide (HF2.out.set7 0)
    have HC3 := hide (HC2.out.kept (grown_cell U67 F 7 (.int .i64 0)) HNE.out)
    have HO3 := hide (HO2.out.trans (only_cell (g := g) 7 (.int .i64 0)))
    clear HC HF HO HF2 HO2 HC2
    go_wp2_with fail
    generalize hV : U67.setCell ⟨F, 7, none⟩ (.int .i64 0) = V67 at *
    clear hV f0 f1 f2 f3 f4 f5 f6 f7 f8 f9 f10 ff
    have HC := HC3
    have HF := HF3
    have HO := HO3
    clear HC3 HF3 HO3
    refine (take_err g _ n cap (some ⟨b, off, none⟩) 4 4 V67 HC.out (by omega) (by omega) (by omega) (by omega)).mono ?_
    rintro e u68 ⟨rfl, m68, rfl⟩
    have HF2 := hide (FR.drewN (w := V67) HF.out m68)
    have HO2 := hide (HO.out.trans (only_drewN V67 m68))
    have HC2 := hide (Cur.drewN (w := V67) HC.out m68)
    generalize V67.drewN m68 = U68 at *
    obtain ⟨f0, f1, f2, f3, f4, f5, f6, f7, f8, f9, f10, ff⟩ := HF2.out.cells
    have HF3 := hide (HF2.out.set8 0)
    have HC3 := hide (HC2.out.kept (grown_cell U68 F 8 (.int .i64 0)) HNE.out)
    have HO3 := hide (HO2.out.trans (only_cell (g := g) 8 (.int .i64 0)))
    clear HC HF HO HF2 HO2 HC2
    go_wp2_with fail
    generalize hV : U68.setCell ⟨F, 8, none⟩ (.int .i64 0) = V68 at *
    clear hV f0 f1 f2 f3 f4 f5 f6 f7 f8 f9 f10 ff
    have HC := HC3
    have HF := HF3
    have HO := HO3
    clear HC3 HF3 HO3
    obtain ⟨f0, f1, f2, f3, f4, f5, f6, f7, f8, f9, f10, ff⟩ := HF.out.cells
    refine (hsize_walk F y0 V68 f0).mono ?_
    rintro e v ⟨rfl, hv⟩
    rw [hv]
    clear hv f0 f1 f2 f3 f4 f5 f6 f7 f8 f9 f10 ff
    go_wp2_with fail
    refine (takeBytes_err g _ n cap (some ⟨b, off, none⟩) 4 _ V68 HC.out (by omega) (by omega) (by omega) (by omega)).mono ?_
    rintro e U ⟨rfl, hbU⟩
    have HF2 := hide (HF.out.only (Only.of_below (S := [g]) hbU) HNF.out)
    have HO2 := hide (HO.out.trans (Only.of_below hbU))
    have HC2 := hide (HC.out.below hbU HC.out.lt)
    clear HC HF HO hbU
    generalize V68.heap.size = K at *
    obtain ⟨f0, f1, f2, f3, f4, f5, f6, f7, f8, f9, f10, ff⟩ := HF2.out.cells
    have HF3 := hide (HF2.out.set9 (.slice (some ⟨K, 0, none⟩) 0 0))
    have HC3 := hide (HC2.out.kept (grown_cell U F 9 (.slice (some ⟨K, 0, none⟩) 0 0)) HNE.out)
    have HO3 := hide (HO2.out.trans (only_cell (g := g) 9 (.slice (some ⟨K, 0, none⟩) 0 0)))
    clear HF2 HO2 HC2
    go_wp2_with fail
    generalize hV : U.setCell ⟨F, 9, none⟩ (.slice (some ⟨K, 0, none⟩) 0 0) = V at *
    clear hV f0 f1 f2 f3 f4 f5 f6 f7 f8 f9 f10 ff
    refine (passed_walk g 1 n cap b off (wErr 4) V HC3.out (by omega) (by omega)).mono ?_
    rintro e v ⟨rfl, mp, rfl⟩
    go_wp2_with fail
    refine (checksum_walk (some ⟨b, off, none⟩) 1 cap (zs.take 1) _ (by rw [List.length_take, HN.out]; omega) (show Arr (V.drewN mp) _ _ from (arr_only HA.out HO3.out HAN.out).take 1) (by omega)).mono ?_
    rintro e X ⟨rfl, hbk, _⟩
    have hbX : Below V.heap.size V X := ⟨hbk.os, hbk.tape, hbk.output, hbk.size, hbk.block⟩
    have HF4 := hide (HF3.out.only (Only.of_below (S := [g]) hbX) HNF.out)
    have HO4 := hide (HO3.out.trans (Only.of_below hbX))
    have HC4 := hide (HC3.out.below hbX HC3.out.lt)
    clear HC3 HF3 HO3 hbk hbX
    go_wp2_with fail
    refine (demand_err g _ _ 4 _ _ X HC4.out).mono ?_
    rintro e v ⟨rfl, hv⟩
    rw [hv]
    clear hv
    go_wp2_with fail
    go_end0
    exact ⟨_, 1, rfl, HC4.out, HF4.out, HO4.out, by omega⟩

set_option maxHeartbeats 8000000 in
theorem takeHead_low (g F n cap b off : Nat) (zs : List Int) (w : World) (hc : Cur w g (.slice (some ⟨b, off, none⟩) n cap) 0 .nilIface) (hf : FR w F 0 0 0 0 0 0 0 0 0 (.slice none 0 0) (.slice none 0 0)) (hn : zs.length = n) (ha : Arr w (some ⟨b, off, none⟩) zs) (hm : n ≤ 1048576) (hcap : n ≤ cap) (h20 : 20 ≤ n) (hbg : b ≠ g) (hbF : b ≠ F) (hFg : F ≠ g) (y0 : Int) (hy0 : y0 = tnum ((zs.drop 0).take 1)) (hb0 : 0 ≤ y0) (hb1 : y0 ≤ 255) (hv : (y0 / 16 == 4) = true) (hs : decide ((20 : Int) ≤ y0 % 16 * 4) = false) :
    Calls Tryz.prog 50 #[.pointer (some ⟨F, 0, none⟩), .pointer (some ⟨g, 0, none⟩)] w fun e w' => ∃ (K p : Nat), e = .returned (.tuple #[]) ∧ Cur w' g (.slice (some ⟨b, off, none⟩) n cap) p (wErr 5) ∧ FR w' F y0 0 0 0 0 0 0 0 0 (.slice (some ⟨K, 0, none⟩) 0 0) (.slice none 0 0) ∧ Only [g, F] w w' ∧ p ≤ n := by
  have HA := hide ha
  have HN := hide hn
  have HNE : Hid (some g ≠ some F) := hide (by intro e; cases e; exact hFg rfl)
  have HNF : Hid (F ∉ [g]) := hide (by simp [hFg])
  have HAN : Hid (∀ j, j < zs.length → ∃ b' off', (some ⟨b, off, none⟩ : Option Addr) = some ⟨b', off', none⟩ ∧ b' ∉ [g, F]) := hide (fun j hj => ⟨b, off, rfl, by simp [hbg, hbF]⟩)
  have h20' : (20 : Int) ≤ (n : Int) := by omega
  have HY0 := hide hy0
  clear ha hn hy0
  have CL := hide (left0_walk g n cap (some ⟨b, off, none⟩) .nilIface w hc (by omega))
  have HC0 := hide hc
  have HF0 := hide hf
  clear hc hf
  go_enter Tryz.func50, Tryz.ntmps50
  go_wp2_with fail
  refine CL.out.mono ?_
  rintro e w1 ⟨rfl, m, rfl⟩
  have HC := hide (Cur.drewN (w := w) HC0.out m)
  have HF := hide (FR.drewN (w := w) HF0.out m)
  have HO : Hid (Only [g, F] w (w.drewN m)) := hide (only_drewN w m)
  clear HC0 HF0 CL
  generalize w.drewN m = W0 at *
  go_wp2_with fail
  refine (demand_yes g 0 _ 2 W0 HC.out).mono ?_
  rintro e v ⟨rfl, hv⟩
  rw [hv]
  clear hv
  go_wp2_with fail
  have t1 := tk1 g 0 n cap b off zs W0 HC.out (by omega) (by omega) hcap HN.out (arr_only HA.out HO.out HAN.out) hbg
  rw [show tnum ((zs.drop 0).take 1) = y0 from HY0.out.symm] at t1
  have T1 := hide t1
  clear t1
  refine T1.out.mono ?_
  rintro e u50 ⟨rfl, hc2, hg2⟩
  have HF2 := hide (HF.out.only (Only.of_some hg2) HNF.out)
  have HO2 := hide (HO.out.trans (only_g (F := F) hg2))
  obtain ⟨f0, f1, f2, f3, f4, f5, f6, f7, f8, f9, f10, ff⟩ := HF2.out.cells
  have HF3 := hide (HF2.out.set0 y0)
  have HC3 : Hid (Cur (u50.setCell ⟨F, 0, none⟩ (.int .i64 y0)) g (.slice (some ⟨b, off, none⟩) n cap) 1 .nilIface) := hide (hc2.kept (grown_cell u50 F 0 _) HNE.out)
  have HO3 := hide (HO2.out.trans (only_cell (g := g) 0 (.int .i64 y0)))
  clear T1 hc2 hg2 HC HF HO HF2 HO2
  go_wp2_with fail
  generalize hV : u50.setCell ⟨F, 0, none⟩ (.int .i64 y0) = V50 at *
  clear hV f0 f1 f2 f3 f4 f5 f6 f7 f8 f9 f10 ff
  have HC := HC3
  have HF := HF3
  have HO := HO3
  clear HC3 HF3 HO3
  obtain ⟨f0, f1, f2, f3, f4, f5, f6, f7, f8, f9, f10, ff⟩ := HF.out.cells
  refine (version_walk F y0 V50 f0).mono ?_
  rintro e v ⟨rfl, hv⟩
  rw [hv]
  clear hv f0 f1 f2 f3 f4 f5 f6 f7 f8 f9 f10 ff
  go_wp2_with fail
  refine (demand_yes g _ _ 4 V50 HC.out).mono ?_
  rintro e v ⟨rfl, hv⟩
  rw [hv]
  clear hv
  go_wp2_with fail
  have HC2 := hide (Cur.drew (w := V50) HC.out)
  have HF2 := hide (FR.drew (w := V50) HF.out)
  have HO2 := hide (HO.out.trans (only_drew V50))
  refine region_tail 14 (by kernel_rfl) (by kernel_rfl) ?_
  clear HC HF HO
  generalize V50.drew = VQ at *
  have HC := HC2
  have HF := HF2
  have HO := HO2
  clear HC2 HF2 HO2
  obtain ⟨f0, f1, f2, f3, f4, f5, f6, f7, f8, f9, f10, ff⟩ := HF.out.cells
  obtain ⟨c0, c1, c2, cf⟩ := HC.out.cells
  simp only [List.take_succ_cons, List.take_zero, List.drop_succ_cons, List.drop_zero]
  repeat (first | go_big_quiet_skip | (go_big_quiet_want; go_big_quiet_op; first | go_big_quiet_on | (apply Exists.intro; refine ⟨hsize_walk F y0 VQ f0, ?_⟩; go_big_quiet_on)))
  refine wpQuiet_nil ?_
  clear c0 c1 c2 cf f0 f1 f2 f3 f4 f5 f6 f7 f8 f9 f10 ff
  go_wp2_with fail
  refine (demand_no g _ _ 5 VQ HC.out).mono ?_
  rintro e V51 ⟨rfl, hc2, hg2⟩
  have HF2 := hide (HF.out.only (Only.of_some hg2) HNF.out)
  have HO2 := hide (HO.out.trans (only_g (F := F) hg2))
  have HC2 := hide hc2
  clear hc2 hg2 HC HF HO
  have HC := HC2
  have HF := HF2
  have HO := HO2
  clear HC2 HF2 HO2
  go_wp2_with fail
  refine (take_err g _ n cap (some ⟨b, off, none⟩) 5 1 V51 HC.out (by omega) (by omega) (by omega) (by omega)).mono ?_
  rintro e u60 ⟨rfl, m60, rfl⟩
  have HF2 := hide (FR.drewN (w := V51) HF.out m60)
  have HO2 := hide (HO.out.trans (only_drewN V51 m60))
  have HC2 := hide (Cur.drewN (w := V51) HC.out m60)
  generalize V51.drewN m60 = U60 at *
  obtain ⟨f0, f1, f2, f3, f4, f5, f6, f7, f8, f9, f10, ff⟩ := HF2.out.cells
  have HF3 := hide (HF2.out.set1 0)
  have HC3 := hide (HC2.out.kept (grown_cell U60 F 1 (.int .i64 0)) HNE.out)
  have HO3 := hide (HO2.out.trans (only_cell (g := g) 1 (.int .i64 0)))
  clear HC HF HO HF2 HO2 HC2
  go_wp2_with fail
  generalize hV : U60.setCell ⟨F, 1, none⟩ (.int .i64 0) = V60 at *
  clear hV f0 f1 f2 f3 f4 f5 f6 f7 f8 f9 f10 ff
  have HC := HC3
  have HF := HF3
  have HO := HO3
  clear HC3 HF3 HO3
  refine (take_err g _ n cap (some ⟨b, off, none⟩) 5 2 V60 HC.out (by omega) (by omega) (by omega) (by omega)).mono ?_
  rintro e u61 ⟨rfl, m61, rfl⟩
  have HF2 := hide (FR.drewN (w := V60) HF.out m61)
  have HO2 := hide (HO.out.trans (only_drewN V60 m61))
  have HC2 := hide (Cur.drewN (w := V60) HC.out m61)
  generalize V60.drewN m61 = U61 at *
  obtain ⟨f0, f1, f2, f3, f4, f5, f6, f7, f8, f9, f10, ff⟩ := HF2.out.cells
  have HF3 := hide (HF2.out.set2 0)
  have HC3 := hide (HC2.out.kept (grown_cell U61 F 2 (.int .i64 0)) HNE.out)
  have HO3 := hide (HO2.out.trans (only_cell (g := g) 2 (.int .i64 0)))
  clear HC HF HO HF2 HO2 HC2
  go_wp2_with fail
  generalize hV : U61.setCell ⟨F, 2, none⟩ (.int .i64 0) = V61 at *
  clear hV f0 f1 f2 f3 f4 f5 f6 f7 f8 f9 f10 ff
  have HC := HC3
  have HF := HF3
  have HO := HO3
  clear HC3 HF3 HO3
  refine (take_err g _ n cap (some ⟨b, off, none⟩) 5 2 V61 HC.out (by omega) (by omega) (by omega) (by omega)).mono ?_
  rintro e u62 ⟨rfl, m62, rfl⟩
  have HF2 := hide (FR.drewN (w := V61) HF.out m62)
  have HO2 := hide (HO.out.trans (only_drewN V61 m62))
  have HC2 := hide (Cur.drewN (w := V61) HC.out m62)
  generalize V61.drewN m62 = U62 at *
  obtain ⟨f0, f1, f2, f3, f4, f5, f6, f7, f8, f9, f10, ff⟩ := HF2.out.cells
  have HF3 := hide (HF2.out.set3 0)
  have HC3 := hide (HC2.out.kept (grown_cell U62 F 3 (.int .i64 0)) HNE.out)
  have HO3 := hide (HO2.out.trans (only_cell (g := g) 3 (.int .i64 0)))
  clear HC HF HO HF2 HO2 HC2
  go_wp2_with fail
  generalize hV : U62.setCell ⟨F, 3, none⟩ (.int .i64 0) = V62 at *
  clear hV f0 f1 f2 f3 f4 f5 f6 f7 f8 f9 f10 ff
  have HC := HC3
  have HF := HF3
  have HO := HO3
  clear HC3 HF3 HO3
  refine (take_err g _ n cap (some ⟨b, off, none⟩) 5 2 V62 HC.out (by omega) (by omega) (by omega) (by omega)).mono ?_
  rintro e u63 ⟨rfl, m63, rfl⟩
  have HF2 := hide (FR.drewN (w := V62) HF.out m63)
  have HO2 := hide (HO.out.trans (only_drewN V62 m63))
  have HC2 := hide (Cur.drewN (w := V62) HC.out m63)
  generalize V62.drewN m63 = U63 at *
  obtain ⟨f0, f1, f2, f3, f4, f5, f6, f7, f8, f9, f10, ff⟩ := HF2.out.cells
  have HF3 := hide (HF2.out.set4 0)
  have HC3 := hide (HC2.out.kept (grown_cell U63 F 4 (.int .i64 0)) HNE.out)
  have HO3 := hide (HO2.out.trans (only_cell (g := g) 4 (.int .i64 0)))
  clear HC HF HO HF2 HO2 HC2
  go_wp2_with fail
  generalize hV : U63.setCell ⟨F, 4, none⟩ (.int .i64 0) = V63 at *
  clear hV f0 f1 f2 f3 f4 f5 f6 f7 f8 f9 f10 ff
  have HC := HC3
  have HF := HF3
  have HO := HO3
  clear HC3 HF3 HO3
  refine (take_err g _ n cap (some ⟨b, off, none⟩) 5 1 V63 HC.out (by omega) (by omega) (by omega) (by omega)).mono ?_
  rintro e u64 ⟨rfl, m64, rfl⟩
  have HF2 := hide (FR.drewN (w := V63) HF.out m64)
  have HO2 := hide (HO.out.trans (only_drewN V63 m64))
  have HC2 := hide (Cur.drewN (w := V63) HC.out m64)
  generalize V63.drewN m64 = U64 at *
  obtain ⟨f0, f1, f2, f3, f4, f5, f6, f7, f8, f9, f10, ff⟩ := HF2.out.cells
  have HF3 := hide (HF2.out.set5 0)
  have HC3 := hide (HC2.out.kept (grown_cell U64 F 5 (.int .i64 0)) HNE.out)
  have HO3 := hide (HO2.out.trans (only_cell (g := g) 5 (.int .i64 0)))
  clear HC HF HO HF2 HO2 HC2
  go_wp2_with fail
  generalize hV : U64.setCell ⟨F, 5, none⟩ (.int .i64 0) = V64 at *
  clear hV f0 f1 f2 f3 f4 f5 f6 f7 f8 f9 f10 ff
  have HC := HC3
  have HF := HF3
  have HO := HO3
  clear HC3 HF3 HO3
  refine (take_err g _ n cap (some ⟨b, off, none⟩) 5 1 V64 HC.out (by omega) (by omega) (by omega) (by omega)).mono ?_
  rintro e u65 ⟨rfl, m65, rfl⟩
  have HF2 := hide (FR.drewN (w := V64) HF.out m65)
  have HO2 := hide (HO.out.trans (only_drewN V64 m65))
  have HC2 := hide (Cur.drewN (w := V64) HC.out m65)
  generalize V64.drewN m65 = U65 at *
  obtain ⟨f0, f1, f2, f3, f4, f5, f6, f7, f8, f9, f10, ff⟩ := HF2.out.cells
  have HF3 := hide (HF2.out.set6 0)
  have HC3 := hide (HC2.out.kept (grown_cell U65 F 6 (.int .i64 0)) HNE.out)
  have HO3 := hide (HO2.out.trans (only_cell (g := g) 6 (.int .i64 0)))
  clear HC HF HO HF2 HO2 HC2
  go_wp2_with fail
  generalize hV : U65.setCell ⟨F, 6, none⟩ (.int .i64 0) = V65 at *
  clear hV f0 f1 f2 f3 f4 f5 f6 f7 f8 f9 f10 ff
  have HC := HC3
  have HF := HF3
  have HO := HO3
  clear HC3 HF3 HO3
  refine (pass_err g _ n cap (some ⟨b, off, none⟩) 5 2 V65 HC.out (by omega) (by omega) (by omega) (by omega)).mono ?_
  rintro e u66 ⟨rfl, m66, rfl⟩
  have HF2 := hide (FR.drewN (w := V65) HF.out m66)
  have HO2 := hide (HO.out.trans (only_drewN V65 m66))
  have HC2 := hide (Cur.drewN (w := V65) HC.out m66)
  generalize V65.drewN m66 = V66 at *
  clear HC HF HO
  have HC := HC2
  have HF := HF2
  have HO := HO2
  clear HC2 HF2 HO2
  go_wp2_with fail
  refine (take_err g _ n cap (some ⟨b, off, none⟩) 5 4 V66 HC.out (by omega) (by omega) (by omega) (by omega)).mono ?_
  rintro e u67 ⟨rfl, m67, rfl⟩
  have HF2 := hide (FR.drewN (w := V66) HF.out m67)
  have HO2 := hide (HO.out.trans (only_drewN V66 m67))
  have HC2 := hide (Cur.drewN (w := V66) HC.out m67)
  generalize V66.drewN m67 = U67 at *
  obtain ⟨f0, f1, f2, f3, f4, f5, f6, f7, f8, f9, f10, ff⟩ := HF2.out.cells
  have HF3 := hide (HF2.out.set7 0)
  have HC3 := hide (HC2.out.kept (grown_cell U67 F 7 (.int .i64 0)) HNE.out)
  have HO3 := hide (HO2.out.trans (only_cell (g := g) 7 (.int .i64 0)))
  clear HC HF HO HF2 HO2 HC2
  go_wp2_with fail
  generalize hV : U67.setCell ⟨F, 7, none⟩ (.int .i64 0) = V67 at *
  clear hV f0 f1 f2 f3 f4 f5 f6 f7 f8 f9 f10 ff
  have HC := HC3
  have HF := HF3
  have HO := HO3
  clear HC3 HF3 HO3
  refine (take_err g _ n cap (some ⟨b, off, none⟩) 5 4 V67 HC.out (by omega) (by omega) (by omega) (by omega)).mono ?_
  rintro e u68 ⟨rfl, m68, rfl⟩
  have HF2 := hide (FR.drewN (w := V67) HF.out m68)
  have HO2 := hide (HO.out.trans (only_drewN V67 m68))
  have HC2 := hide (Cur.drewN (w := V67) HC.out m68)
  generalize V67.drewN m68 = U68 at *
  obtain ⟨f0, f1, f2, f3, f4, f5, f6, f7, f8, f9, f10, ff⟩ := HF2.out.cells
  have HF3 := hide (HF2.out.set8 0)
  have HC3 := hide (HC2.out.kept (grown_cell U68 F 8 (.int .i64 0)) HNE.out)
  have HO3 := hide (HO2.out.trans (only_cell (g := g) 8 (.int .i64 0)))
  clear HC HF HO HF2 HO2 HC2
  go_wp2_with fail
  generalize hV : U68.setCell ⟨F, 8, none⟩ (.int .i64 0) = V68 at *
  clear hV f0 f1 f2 f3 f4 f5 f6 f7 f8 f9 f10 ff
  have HC := HC3
  have HF := HF3
  have HO := HO3
  clear HC3 HF3 HO3
  obtain ⟨f0, f1, f2, f3, f4, f5, f6, f7, f8, f9, f10, ff⟩ := HF.out.cells
  refine (hsize_walk F y0 V68 f0).mono ?_
  rintro e v ⟨rfl, hv⟩
  rw [hv]
  clear hv f0 f1 f2 f3 f4 f5 f6 f7 f8 f9 f10 ff
  go_wp2_with fail
  refine (takeBytes_err g _ n cap (some ⟨b, off, none⟩) 5 _ V68 HC.out (by omega) (by omega) (by omega) (by omega)).mono ?_
  rintro e U ⟨rfl, hbU⟩
  have HF2 := hide (HF.out.only (Only.of_below (S := [g]) hbU) HNF.out)
  have HO2 := hide (HO.out.trans (Only.of_below hbU))
  have HC2 := hide (HC.out.below hbU HC.out.lt)
  clear HC HF HO hbU
  generalize V68.heap.size = K at *
  obtain ⟨f0, f1, f2, f3, f4, f5, f6, f7, f8, f9, f10, ff⟩ := HF2.out.cells
  have HF3 := hide (HF2.out.set9 (.slice (some ⟨K, 0, none⟩) 0 0))
  have HC3 := hide (HC2.out.kept (grown_cell U F 9 (.slice (some ⟨K, 0, none⟩) 0 0)) HNE.out)
  have HO3 := hide (HO2.out.trans (only_cell (g := g) 9 (.slice (some ⟨K, 0, none⟩) 0 0)))
  clear HF2 HO2 HC2
  go_wp2_with fail
  generalize hV : U.setCell ⟨F, 9, none⟩ (.slice (some ⟨K, 0, none⟩) 0 0) = V at *
  clear hV f0 f1 f2 f3 f4 f5 f6 f7 f8 f9 f10 ff
  refine (passed_walk g 1 n cap b off (wErr 5) V HC3.out (by omega) (by omega)).mono ?_
  rintro e v ⟨rfl, mp, rfl⟩
  go_wp2_with fail
  refine (checksum_walk (some ⟨b, off, none⟩) 1 cap (zs.take 1) _ (by rw [List.length_take, HN.out]; omega) (show Arr (V.drewN mp) _ _ from (arr_only HA.out HO3.out HAN.out).take 1) (by omega)).mono ?_
  rintro e X ⟨rfl, hbk, _⟩
  have hbX : Below V.heap.size V X := ⟨hbk.os, hbk.tape, hbk.output, hbk.size, hbk.block⟩
  have HF4 := hide (HF3.out.only (Only.of_below (S := [g]) hbX) HNF.out)
  have HO4 := hide (HO3.out.trans (Only.of_below hbX))
  have HC4 := hide (HC3.out.below hbX HC3.out.lt)
  clear HC3 HF3 HO3 hbk hbX
  go_wp2_with fail
  refine (demand_err g _ _ 5 _ _ X HC4.out).mono ?_
  rintro e v ⟨rfl, hv⟩
  rw [hv]
  clear hv
  go_wp2_with fail
  go_end0
  exact ⟨_, 1, rfl, HC4.out, HF4.out, HO4.out, by omega⟩

set_option maxHeartbeats 8000000 in
theorem takeHead_high (g F n cap b off : Nat) (zs : List Int) (w : World) (hc : Cur w g (.slice (some ⟨b, off, none⟩) n cap) 0 .nilIface) (hf : FR w F 0 0 0 0 0 0 0 0 0 (.slice none 0 0) (.slice none 0 0)) (hn : zs.length = n) (ha : Arr w (some ⟨b, off, none⟩) zs) (hm : n ≤ 1048576) (hcap : n ≤ cap) (h20 : 20 ≤ n) (hbg : b ≠ g) (hbF : b ≠ F) (hFg : F ≠ g) (y0 : Int) (hy0 : y0 = tnum ((zs.drop 0).take 1)) (hb0 : 0 ≤ y0) (hb1 : y0 ≤ 255) (hv : (y0 / 16 == 4) = true) (hs : (20 : Int) ≤ y0 % 16 * 4) (hs2 : decide (y0 % 16 * 4 ≤ (n : Int)) = false) :
    Calls Tryz.prog 50 #[.pointer (some ⟨F, 0, none⟩), .pointer (some ⟨g, 0, none⟩)] w fun e w' => ∃ (K p : Nat), e = .returned (.tuple #[]) ∧ Cur w' g (.slice (some ⟨b, off, none⟩) n cap) p (wErr 5) ∧ FR w' F y0 0 0 0 0 0 0 0 0 (.slice (some ⟨K, 0, none⟩) 0 0) (.slice none 0 0) ∧ Only [g, F] w w' ∧ p ≤ n := by
  have HA := hide ha
  have HN := hide hn
  have HNE : Hid (some g ≠ some F) := hide (by intro e; cases e; exact hFg rfl)
  have HNF : Hid (F ∉ [g]) := hide (by simp [hFg])
  have HAN : Hid (∀ j, j < zs.length → ∃ b' off', (some ⟨b, off, none⟩ : Option Addr) = some ⟨b', off', none⟩ ∧ b' ∉ [g, F]) := hide (fun j hj => ⟨b, off, rfl, by simp [hbg, hbF]⟩)
  have h20' : (20 : Int) ≤ (n : Int) := by omega
  have HY0 := hide hy0
  clear ha hn hy0
  have CL := hide (left0_walk g n cap (some ⟨b, off, none⟩) .nilIface w hc (by omega))
  have HC0 := hide hc
  have HF0 := hide hf
  clear hc hf
  go_enter Tryz.func50, Tryz.ntmps50
  go_wp2_with fail
  refine CL.out.mono ?_
  rintro e w1 ⟨rfl, m, rfl⟩
  have HC := hide (Cur.drewN (w := w) HC0.out m)
  have HF := hide (FR.drewN (w := w) HF0.out m)
  have HO : Hid (Only [g, F] w (w.drewN m)) := hide (only_drewN w m)
  clear HC0 HF0 CL
  generalize w.drewN m = W0 at *
  go_wp2_with fail
  refine (demand_yes g 0 _ 2 W0 HC.out).mono ?_
  rintro e v ⟨rfl, hv⟩
  rw [hv]
  clear hv
  go_wp2_with fail
  have t1 := tk1 g 0 n cap b off zs W0 HC.out (by omega) (by omega) hcap HN.out (arr_only HA.out HO.out HAN.out) hbg
  rw [show tnum ((zs.drop 0).take 1) = y0 from HY0.out.symm] at t1
  have T1 := hide t1
  clear t1
  refine T1.out.mono ?_
  rintro e u50 ⟨rfl, hc2, hg2⟩
  have HF2 := hide (HF.out.only (Only.of_some hg2) HNF.out)
  have HO2 := hide (HO.out.trans (only_g (F := F) hg2))
  obtain ⟨f0, f1, f2, f3, f4, f5, f6, f7, f8, f9, f10, ff⟩ := HF2.out.cells
  have HF3 := hide (HF2.out.set0 y0)
  have HC3 : Hid (Cur (u50.setCell ⟨F, 0, none⟩ (.int .i64 y0)) g (.slice (some ⟨b, off, none⟩) n cap) 1 .nilIface) := hide (hc2.kept (grown_cell u50 F 0 _) HNE.out)
  have HO3 := hide (HO2.out.trans (only_cell (g := g) 0 (.int .i64 y0)))
  clear T1 hc2 hg2 HC HF HO HF2 HO2
  go_wp2_with fail
  generalize hV : u50.setCell ⟨F, 0, none⟩ (.int .i64 y0) = V50 at *
  clear hV f0 f1 f2 f3 f4 f5 f6 f7 f8 f9 f10 ff
  have HC := HC3
  have HF := HF3
  have HO := HO3
  clear HC3 HF3 HO3
  obtain ⟨f0, f1, f2, f3, f4, f5, f6, f7, f8, f9, f10, ff⟩ := HF.out.cells
  refine (version_walk F y0 V50 f0).mono ?_
  rintro e v ⟨rfl, hv⟩
  rw [hv]
  clear hv f0 f1 f2 f3 f4 f5 f6 f7 f8 f9 f10 ff
  go_wp2_with fail
  refine (demand_yes g _ _ 4 V50 HC.out).mono ?_
  rintro e v ⟨rfl, hv⟩
  rw [hv]
  clear hv
  go_wp2_with fail
  have HC2 := hide (Cur.drew (w := V50) HC.out)
  have HF2 := hide (FR.drew (w := V50) HF.out)
  have HO2 := hide (HO.out.trans (only_drew V50))
  refine region_tail 14 (by kernel_rfl) (by kernel_rfl) ?_
  clear HC HF HO
  generalize V50.drew = VQ at *
  have HC := HC2
  have HF := HF2
  have HO := HO2
  clear HC2 HF2 HO2
  obtain ⟨f0, f1, f2, f3, f4, f5, f6, f7, f8, f9, f10, ff⟩ := HF.out.cells
  obtain ⟨c0, c1, c2, cf⟩ := HC.out.cells
  simp only [List.take_succ_cons, List.take_zero, List.drop_succ_cons, List.drop_zero]
  repeat (first | go_big_quiet_skip | (go_big_quiet_want; go_big_quiet_op; first | go_big_quiet_on | (apply Exists.intro; refine ⟨hsize_walk F y0 VQ f0, ?_⟩; go_big_quiet_on)))
  refine wpQuiet_nil ?_
  clear c0 c1 c2 cf f0 f1 f2 f3 f4 f5 f6 f7 f8 f9 f10 ff
  go_wp2_with fail
  refine (demand_no g _ _ 5 VQ HC.out).mono ?_
  rintro e V51 ⟨rfl, hc2, hg2⟩
  have HF2 := hide (HF.out.only (Only.of_some hg2) HNF.out)
  have HO2 := hide (HO.out.trans (only_g (F := F) hg2))
  have HC2 := hide hc2
  clear hc2 hg2 HC HF HO
  have HC := HC2
  have HF := HF2
  have HO := HO2
  clear HC2 HF2 HO2
  go_wp2_with fail
  refine (take_err g _ n cap (some ⟨b, off, none⟩) 5 1 V51 HC.out (by omega) (by omega) (by omega) (by omega)).mono ?_
  rintro e u60 ⟨rfl, m60, rfl⟩
  have HF2 := hide (FR.drewN (w := V51) HF.out m60)
  have HO2 := hide (HO.out.trans (only_drewN V51 m60))
  have HC2 := hide (Cur.drewN (w := V51) HC.out m60)
  generalize V51.drewN m60 = U60 at *
  obtain ⟨f0, f1, f2, f3, f4, f5, f6, f7, f8, f9, f10, ff⟩ := HF2.out.cells
  have HF3 := hide (HF2.out.set1 0)
  have HC3 := hide (HC2.out.kept (grown_cell U60 F 1 (.int .i64 0)) HNE.out)
  have HO3 := hide (HO2.out.trans (only_cell (g := g) 1 (.int .i64 0)))
  clear HC HF HO HF2 HO2 HC2
  go_wp2_with fail
  generalize hV : U60.setCell ⟨F, 1, none⟩ (.int .i64 0) = V60 at *
  clear hV f0 f1 f2 f3 f4 f5 f6 f7 f8 f9 f10 ff
  have HC := HC3
  have HF := HF3
  have HO := HO3
  clear HC3 HF3 HO3
  refine (take_err g _ n cap (some ⟨b, off, none⟩) 5 2 V60 HC.out (by omega) (by omega) (by omega) (by omega)).mono ?_
  rintro e u61 ⟨rfl, m61, rfl⟩
  have HF2 := hide (FR.drewN (w := V60) HF.out m61)
  have HO2 := hide (HO.out.trans (only_drewN V60 m61))
  have HC2 := hide (Cur.drewN (w := V60) HC.out m61)
  generalize V60.drewN m61 = U61 at *
  obtain ⟨f0, f1, f2, f3, f4, f5, f6, f7, f8, f9, f10, ff⟩ := HF2.out.cells
  have HF3 := hide (HF2.out.set2 0)
  have HC3 := hide (HC2.out.kept (grown_cell U61 F 2 (.int .i64 0)) HNE.out)
  have HO3 := hide (HO2.out.trans (only_cell (g := g) 2 (.int .i64 0)))
  clear HC HF HO HF2 HO2 HC2
  go_wp2_with fail
  generalize hV : U61.setCell ⟨F, 2, none⟩ (.int .i64 0) = V61 at *
  clear hV f0 f1 f2 f3 f4 f5 f6 f7 f8 f9 f10 ff
  have HC := HC3
  have HF := HF3
  have HO := HO3
  clear HC3 HF3 HO3
  refine (take_err g _ n cap (some ⟨b, off, none⟩) 5 2 V61 HC.out (by omega) (by omega) (by omega) (by omega)).mono ?_
  rintro e u62 ⟨rfl, m62, rfl⟩
  have HF2 := hide (FR.drewN (w := V61) HF.out m62)
  have HO2 := hide (HO.out.trans (only_drewN V61 m62))
  have HC2 := hide (Cur.drewN (w := V61) HC.out m62)
  generalize V61.drewN m62 = U62 at *
  obtain ⟨f0, f1, f2, f3, f4, f5, f6, f7, f8, f9, f10, ff⟩ := HF2.out.cells
  have HF3 := hide (HF2.out.set3 0)
  have HC3 := hide (HC2.out.kept (grown_cell U62 F 3 (.int .i64 0)) HNE.out)
  have HO3 := hide (HO2.out.trans (only_cell (g := g) 3 (.int .i64 0)))
  clear HC HF HO HF2 HO2 HC2
  go_wp2_with fail
  generalize hV : U62.setCell ⟨F, 3, none⟩ (.int .i64 0) = V62 at *
  clear hV f0 f1 f2 f3 f4 f5 f6 f7 f8 f9 f10 ff
  have HC := HC3
  have HF := HF3
  have HO := HO3
  clear HC3 HF3 HO3
  refine (take_err g _ n cap (some ⟨b, off, none⟩) 5 2 V62 HC.out (by omega) (by omega) (by omega) (by omega)).mono ?_
  rintro e u63 ⟨rfl, m63, rfl⟩
  have HF2 := hide (FR.drewN (w := V62) HF.out m63)
  have HO2 := hide (HO.out.trans (only_drewN V62 m63))
  have HC2 := hide (Cur.drewN (w := V62) HC.out m63)
  generalize V62.drewN m63 = U63 at *
  obtain ⟨f0, f1, f2, f3, f4, f5, f6, f7, f8, f9, f10, ff⟩ := HF2.out.cells
  have HF3 := hide (HF2.out.set4 0)
  have HC3 := hide (HC2.out.kept (grown_cell U63 F 4 (.int .i64 0)) HNE.out)
  have HO3 := hide (HO2.out.trans (only_cell (g := g) 4 (.int .i64 0)))
  clear HC HF HO HF2 HO2 HC2
  go_wp2_with fail
  generalize hV : U63.setCell ⟨F, 4, none⟩ (.int .i64 0) = V63 at *
  clear hV f0 f1 f2 f3 f4 f5 f6 f7 f8 f9 f10 ff
  have HC := HC3
  have HF := HF3
  have HO := HO3
  clear HC3 HF3 HO3
  refine (take_err g _ n cap (some ⟨b, off, none⟩) 5 1 V63 HC.out (by omega) (by omega) (by omega) (by omega)).mono ?_
  rintro e u64 ⟨rfl, m64, rfl⟩
  have HF2 := hide (FR.drewN (w := V63) HF.out m64)
  have HO2 := hide (HO.out.trans (only_drewN V63 m64))
  have HC2 := hide (Cur.drewN (w := V63) HC.out m64)
  generalize V63.drewN m64 = U64 at *
  obtain ⟨f0, f1, f2, f3, f4, f5, f6, f7, f8, f9, f10, ff⟩ := HF2.out.cells
  have HF3 := hide (HF2.out.set5 0)
  have HC3 := hide (HC2.out.kept (grown_cell U64 F 5 (.int .i64 0)) HNE.out)
  have HO3 := hide (HO2.out.trans (only_cell (g := g) 5 (.int .i64 0)))
  clear HC HF HO HF2 HO2 HC2
  go_wp2_with fail
  generalize hV : U64.setCell ⟨F, 5, none⟩ (.int .i64 0) = V64 at *
  clear hV f0 f1 f2 f3 f4 f5 f6 f7 f8 f9 f10 ff
  have HC := HC3
  have HF := HF3
  have HO := HO3
  clear HC3 HF3 HO3
  refine (take_err g _ n cap (some ⟨b, off, none⟩) 5 1 V64 HC.out (by omega) (by omega) (by omega) (by omega)).mono ?_
  rintro e u65 ⟨rfl, m65, rfl⟩
  have HF2 := hide (FR.drewN (w := V64) HF.out m65)
  have HO2 := hide (HO.out.trans (only_drewN V64 m65))
  have HC2 := hide (Cur.drewN (w := V64) HC.out m65)
  generalize V64.drewN m65 = U65 at *
  obtain ⟨f0, f1, f2, f3, f4, f5, f6, f7, f8, f9, f10, ff⟩ := HF2.out.cells
  have HF3 := hide (HF2.out.set6 0)
  have HC3 := hide (HC2.out.kept (grown_cell U65 F 6 (.int .i64 0)) HNE.out)
  have HO3 := hide (HO2.out.trans (only_cell (g := g) 6 (.int .i64 0)))
  clear HC HF HO HF2 HO2 HC2
  go_wp2_with fail
  generalize hV : U65.setCell ⟨F, 6, none⟩ (.int .i64 0) = V65 at *
  clear hV f0 f1 f2 f3 f4 f5 f6 f7 f8 f9 f10 ff
  have HC := HC3
  have HF := HF3
  have HO := HO3
  clear HC3 HF3 HO3
  refine (pass_err g _ n cap (some ⟨b, off, none⟩) 5 2 V65 HC.out (by omega) (by omega) (by omega) (by omega)).mono ?_
  rintro e u66 ⟨rfl, m66, rfl⟩
  have HF2 := hide (FR.drewN (w := V65) HF.out m66)
  have HO2 := hide (HO.out.trans (only_drewN V65 m66))
  have HC2 := hide (Cur.drewN (w := V65) HC.out m66)
  generalize V65.drewN m66 = V66 at *
  clear HC HF HO
  have HC := HC2
  have HF := HF2
  have HO := HO2
  clear HC2 HF2 HO2
  go_wp2_with fail
  refine (take_err g _ n cap (some ⟨b, off, none⟩) 5 4 V66 HC.out (by omega) (by omega) (by omega) (by omega)).mono ?_
  rintro e u67 ⟨rfl, m67, rfl⟩
  have HF2 := hide (FR.drewN (w := V66) HF.out m67)
  have HO2 := hide (HO.out.trans (only_drewN V66 m67))
  have HC2 := hide (Cur.drewN (w := V66) HC.out m67)
  generalize V66.drewN m67 = U67 at *
  obtain ⟨f0, f1, f2, f3, f4, f5, f6, f7, f8, f9, f10, ff⟩ := HF2.out.cells
  have HF3 := hide (HF2.out.set7 0)
  have HC3 := hide (HC2.out.kept (grown_cell U67 F 7 (.int .i64 0)) HNE.out)
  have HO3 := hide (HO2.out.trans (only_cell (g := g) 7 (.int .i64 0)))
  clear HC HF HO HF2 HO2 HC2
  go_wp2_with fail
  generalize hV : U67.setCell ⟨F, 7, none⟩ (.int .i64 0) = V67 at *
  clear hV f0 f1 f2 f3 f4 f5 f6 f7 f8 f9 f10 ff
  have HC := HC3
  have HF := HF3
  have HO := HO3
  clear HC3 HF3 HO3
  refine (take_err g _ n cap (some ⟨b, off, none⟩) 5 4 V67 HC.out (by omega) (by omega) (by omega) (by omega)).mono ?_
  rintro e u68 ⟨rfl, m68, rfl⟩
  have HF2 := hide (FR.drewN (w := V67) HF.out m68)
  have HO2 := hide (HO.out.trans (only_drewN V67 m68))
  have HC2 := hide (Cur.drewN (w := V67) HC.out m68)
  generalize V67.drewN m68 = U68 at *
  obtain ⟨f0, f1, f2, f3, f4, f5, f6, f7, f8, f9, f10, ff⟩ := HF2.out.cells
  have HF3 := hide (HF2.out.set8 0)
  have HC3 := hide (HC2.out.kept (grown_cell U68 F 8 (.int .i64 0)) HNE.out)
  have HO3 := hide (HO2.out.trans (only_cell (g := g) 8 (.int .i64 0)))
  clear HC HF HO HF2 HO2 HC2
  go_wp2_with fail
  generalize hV : U68.setCell ⟨F, 8, none⟩ (.int .i64 0) = V68 at *
  clear hV f0 f1 f2 f3 f4 f5 f6 f7 f8 f9 f10 ff
  have HC := HC3
  have HF := HF3
  have HO := HO3
  clear HC3 HF3 HO3
  obtain ⟨f0, f1, f2, f3, f4, f5, f6, f7, f8, f9, f10, ff⟩ := HF.out.cells
  refine (hsize_walk F y0 V68 f0).mono ?_
  rintro e v ⟨rfl, hv⟩
  rw [hv]
  clear hv f0 f1 f2 f3 f4 f5 f6 f7 f8 f9 f10 ff
  go_wp2_with fail
  refine (takeBytes_err g _ n cap (some ⟨b, off, none⟩) 5 _ V68 HC.out (by omega) (by omega) (by omega) (by omega)).mono ?_
  rintro e U ⟨rfl, hbU⟩
  have HF2 := hide (HF.out.only (Only.of_below (S := [g]) hbU) HNF.out)
  have HO2 := hide (HO.out.trans (Only.of_below hbU))
  have HC2 := hide (HC.out.below hbU HC.out.lt)
  clear HC HF HO hbU
  generalize V68.heap.size = K at *
  obtain ⟨f0, f1, f2, f3, f4, f5, f6, f7, f8, f9, f10, ff⟩ := HF2.out.cells
  have HF3 := hide (HF2.out.set9 (.slice (some ⟨K, 0, none⟩) 0 0))
  have HC3 := hide (HC2.out.kept (grown_cell U F 9 (.slice (some ⟨K, 0, none⟩) 0 0)) HNE.out)
  have HO3 := hide (HO2.out.trans (only_cell (g := g) 9 (.slice (some ⟨K, 0, none⟩) 0 0)))
  clear HF2 HO2 HC2
  go_wp2_with fail
  generalize hV : U.setCell ⟨F, 9, none⟩ (.slice (some ⟨K, 0, none⟩) 0 0) = V at *
  clear hV f0 f1 f2 f3 f4 f5 f6 f7 f8 f9 f10 ff
  refine (passed_walk g 1 n cap b off (wErr 5) V HC3.out (by omega) (by omega)).mono ?_
  rintro e v ⟨rfl, mp, rfl⟩
  go_wp2_with fail
  refine (checksum_walk (some ⟨b, off, none⟩) 1 cap (zs.take 1) _ (by rw [List.length_take, HN.out]; omega) (show Arr (V.drewN mp) _ _ from (arr_only HA.out HO3.out HAN.out).take 1) (by omega)).mono ?_
  rintro e X ⟨rfl, hbk, _⟩
  have hbX : Below V.heap.size V X := ⟨hbk.os, hbk.tape, hbk.output, hbk.size, hbk.block⟩
  have HF4 := hide (HF3.out.only (Only.of_below (S := [g]) hbX) HNF.out)
  have HO4 := hide (HO3.out.trans (Only.of_below hbX))
  have HC4 := hide (HC3.out.below hbX HC3.out.lt)
  clear HC3 HF3 HO3 hbk hbX
  go_wp2_with fail
  refine (demand_err g _ _ 5 _ _ X HC4.out).mono ?_
  rintro e v ⟨rfl, hv⟩
  rw [hv]
  clear hv
  go_wp2_with fail
  go_end0
  exact ⟨_, 1, rfl, HC4.out, HF4.out, HO4.out, by omega⟩

set_option maxHeartbeats 8000000 in
theorem takeHead_long (g F n cap b off : Nat) (zs : List Int) (w : World) (hc : Cur w g (.slice (some ⟨b, off, none⟩) n cap) 0 .nilIface) (hf : FR w F 0 0 0 0 0 0 0 0 0 (.slice none 0 0) (.slice none 0 0)) (hn : zs.length = n) (ha : Arr w (some ⟨b, off, none⟩) zs) (hm : n ≤ 1048576) (hcap : n ≤ cap) (h20 : 20 ≤ n) (hbg : b ≠ g) (hbF : b ≠ F) (hFg : F ≠ g) (y0 : Int) (hy0 : y0 = tnum ((zs.drop 0).take 1)) (hb0 : 0 ≤ y0) (hb1 : y0 ≤ 255) (hv : (y0 / 16 == 4) = true) (hs : (20 : Int) ≤ y0 % 16 * 4) (hs2 : y0 % 16 * 4 ≤ (n : Int)) (y1 : Int) (hy1 : y1 = tnum ((zs.drop 1).take 1)) (y2 : Int) (hy2 : y2 = tnum ((zs.drop 2).take 2)) (y3 : Int) (hy3 : y3 = tnum ((zs.drop 4).take 2)) (y4 : Int) (hy4 : y4 = tnum ((zs.drop 6).take 2)) (y5 : Int) (hy5 : y5 = tnum ((zs.drop 8).take 1)) (y6 : Int) (hy6 : y6 = tnum ((zs.drop 9).take 1)) (y7 : Int) (hy7 : y7 = tnum ((zs.drop 12).take 4)) (y8 : Int) (hy8 : y8 = tnum ((zs.drop 16).take 4)) (ko : Nat) (hko : y0 % 16 * 4 - 20 = (ko : Int)) (E : Bool) (hE : (csum (zs.take (20 + ko)) == 0) = E) (ev : Value) (hev : (if E then Value.nilIface else wErr 3) = ev) :
    Calls Tryz.prog 50 #[.pointer (some ⟨F, 0, none⟩), .pointer (some ⟨g, 0, none⟩)] w fun e w' => ∃ (ao : Option Addr) (co : Nat), e = .returned (.tuple #[]) ∧ Cur w' g (.slice (some ⟨b, off, none⟩) n cap) (20 + ko) ev ∧ FR w' F y0 y1 y2 y3 y4 y5 y6 y7 y8 (.slice ao ko co) (.slice none 0 0) ∧ OwnB w' w.heap.size (.slice ao ko co) ((zs.drop 20).take ko) ∧ Only [g, F] w w' := by
  have HA := hide ha
  have HN := hide hn
  have HNE : Hid (some g ≠ some F) := hide (by intro e; cases e; exact hFg rfl)
  have HNF : Hid (F ∉ [g]) := hide (by simp [hFg])
  have HAN : Hid (∀ j, j < zs.length → ∃ b' off', (some ⟨b, off, none⟩ : Option Addr) = some ⟨b', off', none⟩ ∧ b' ∉ [g, F]) := hide (fun j hj => ⟨b, off, rfl, by simp [hbg, hbF]⟩)
  have h20' : (20 : Int) ≤ (n : Int) := by omega
  have HY0 := hide hy0
  clear ha hn hy0
  have HY1 := hide hy1
  clear hy1
  have HY2 := hide hy2
  clear hy2
  have HY3 := hide hy3
  clear hy3
  have HY4 := hide hy4
  clear hy4
  have HY5 := hide hy5
  clear hy5
  have HY6 := hide hy6
  clear hy6
  have HY7 := hide hy7
  clear hy7
  have HY8 := hide hy8
  clear hy8
  have HKO := hide hko
  have HE := hide hE
  have HEV := hide hev
  clear hko hE hev
  have hFl := hf.lt
  have hgl := hc.lt
  have HKN : Hid (20 + ko ≤ n) := hide (by have := HKO.out; omega)
  have CL := hide (left0_walk g n cap (some ⟨b, off, none⟩) .nilIface w hc (by omega))
  have HC0 := hide hc
  have HF0 := hide hf
  clear hc hf
  go_enter Tryz.func50, Tryz.ntmps50
  go_wp2_with fail
  refine CL.out.mono ?_
  rintro e w1 ⟨rfl, m, rfl⟩
  have HC := hide (Cur.drewN (w := w) HC0.out m)
  have HF := hide (FR.drewN (w := w) HF0.out m)
  have HO : Hid (Only [g, F] w (w.drewN m)) := hide (only_drewN w m)
  clear HC0 HF0 CL
  generalize w.drewN m = W0 at *
  go_wp2_with fail
  refine (demand_yes g 0 _ 2 W0 HC.out).mono ?_
  rintro e v ⟨rfl, hv⟩
  rw [hv]
  clear hv
  go_wp2_with fail
  have t1 := tk1 g 0 n cap b off zs W0 HC.out (by omega) (by omega) hcap HN.out (arr_only HA.out HO.out HAN.out) hbg
  rw [show tnum ((zs.drop 0).take 1) = y0 from HY0.out.symm] at t1
  have T1 := hide t1
  clear t1
  refine T1.out.mono ?_
  rintro e u50 ⟨rfl, hc2, hg2⟩
  have HF2 := hide (HF.out.only (Only.of_some hg2) HNF.out)
  have HO2 := hide (HO.out.trans (only_g (F := F) hg2))
  obtain ⟨f0, f1, f2, f3, f4, f5, f6, f7, f8, f9, f10, ff⟩ := HF2.out.cells
  have HF3 := hide (HF2.out.set0 y0)
  have HC3 : Hid (Cur (u50.setCell ⟨F, 0, none⟩ (.int .i64 y0)) g (.slice (some ⟨b, off, none⟩) n cap) 1 .nilIface) := hide (hc2.kept (grown_cell u50 F 0 _) HNE.out)
  have HO3 := hide (HO2.out.trans (only_cell (g := g) 0 (.int .i64 y0)))
  clear T1 hc2 hg2 HC HF HO HF2 HO2
  go_wp2_with fail
  generalize hV : u50.setCell ⟨F, 0, none⟩ (.int .i64 y0) = V50 at *
  clear hV f0 f1 f2 f3 f4 f5 f6 f7 f8 f9 f10 ff
  have HC := HC3
  have HF := HF3
  have HO := HO3
  clear HC3 HF3 HO3
  obtain ⟨f0, f1, f2, f3, f4, f5, f6, f7, f8, f9, f10, ff⟩ := HF.out.cells
  refine (version_walk F y0 V50 f0).mono ?_
  rintro e v ⟨rfl, hv⟩
  rw [hv]
  clear hv f0 f1 f2 f3 f4 f5 f6 f7 f8 f9 f10 ff
  go_wp2_with fail
  refine (demand_yes g _ _ 4 V50 HC.out).mono ?_
  rintro e v ⟨rfl, hv⟩
  rw [hv]
  clear hv
  go_wp2_with fail
  have HC2 := hide (Cur.drew (w := V50) HC.out)
  have HF2 := hide (FR.drew (w := V50) HF.out)
  have HO2 := hide (HO.out.trans (only_drew V50))
  refine region_tail 14 (by kernel_rfl) (by kernel_rfl) ?_
  clear HC HF HO
  generalize V50.drew = VQ at *
  have HC := HC2
  have HF := HF2
  have HO := HO2
  clear HC2 HF2 HO2
  obtain ⟨f0, f1, f2, f3, f4, f5, f6, f7, f8, f9, f10, ff⟩ := HF.out.cells
  obtain ⟨c0, c1, c2, cf⟩ := HC.out.cells
  simp only [List.take_succ_cons, List.take_zero, List.drop_succ_cons, List.drop_zero]
  repeat (first | go_big_quiet_skip | (go_big_quiet_want; go_big_quiet_op; first | go_big_quiet_on | (apply Exists.intro; refine ⟨hsize_walk F y0 VQ f0, ?_⟩; go_big_quiet_on)))
  refine wpQuiet_nil ?_
  clear c0 c1 c2 cf f0 f1 f2 f3 f4 f5 f6 f7 f8 f9 f10 ff
  go_wp2_with fail
  refine (demand_yes g _ _ 5 VQ HC.out).mono ?_
  rintro e v ⟨rfl, hv⟩
  rw [hv]
  clear hv
  go_wp2_with fail
  have t1 := tk1 g 1 n cap b off zs VQ HC.out (by omega) (by omega) hcap HN.out (arr_only HA.out HO.out HAN.out) hbg
  rw [show tnum ((zs.drop 1).take 1) = y1 from HY1.out.symm] at t1
  have T1 := hide t1
  clear t1
  refine T1.out.mono ?_
  rintro e u60 ⟨rfl, hc2, hg2⟩
  have HF2 := hide (HF.out.only (Only.of_some hg2) HNF.out)
  have HO2 := hide (HO.out.trans (only_g (F := F) hg2))
  obtain ⟨f0, f1, f2, f3, f4, f5, f6, f7, f8, f9, f10, ff⟩ := HF2.out.cells
  have HF3 := hide (HF2.out.set1 y1)
  have HC3 : Hid (Cur (u60.setCell ⟨F, 1, none⟩ (.int .i64 y1)) g (.slice (some ⟨b, off, none⟩) n cap) 2 .nilIface) := hide (hc2.kept (grown_cell u60 F 1 _) HNE.out)
  have HO3 := hide (HO2.out.trans (only_cell (g := g) 1 (.int .i64 y1)))
  clear T1 hc2 hg2 HC HF HO HF2 HO2
  go_wp2_with fail
  generalize hV : u60.setCell ⟨F, 1, none⟩ (.int .i64 y1) = V60 at *
  clear hV f0 f1 f2 f3 f4 f5 f6 f7 f8 f9 f10 ff
  have HC := HC3
  have HF := HF3
  have HO := HO3
  clear HC3 HF3 HO3
  have t1 := tk2 g 2 n cap b off zs V60 HC.out (by omega) (by omega) hcap HN.out (arr_only HA.out HO.out HAN.out) hbg
  rw [show tnum ((zs.drop 2).take 2) = y2 from HY2.out.symm] at t1
  have T1 := hide t1
  clear t1
  refine T1.out.mono ?_
  rintro e u61 ⟨rfl, hc2, hg2⟩
  have HF2 := hide (HF.out.only (Only.of_some hg2) HNF.out)
  have HO2 := hide (HO.out.trans (only_g (F := F) hg2))
  obtain ⟨f0, f1, f2, f3, f4, f5, f6, f7, f8, f9, f10, ff⟩ := HF2.out.cells
  have HF3 := hide (HF2.out.set2 y2)
  have HC3 : Hid (Cur (u61.setCell ⟨F, 2, none⟩ (.int .i64 y2)) g (.slice (some ⟨b, off, none⟩) n cap) 4 .nilIface) := hide (hc2.kept (grown_cell u61 F 2 _) HNE.out)
  have HO3 := hide (HO2.out.trans (only_cell (g := g) 2 (.int .i64 y2)))
  clear T1 hc2 hg2 HC HF HO HF2 HO2
  go_wp2_with fail
  generalize hV : u61.setCell ⟨F, 2, none⟩ (.int .i64 y2) = V61 at *
  clear hV f0 f1 f2 f3 f4 f5 f6 f7 f8 f9 f10 ff
  have HC := HC3
  have HF := HF3
  have HO := HO3
  clear HC3 HF3 HO3
  have t1 := tk2 g 4 n cap b off zs V61 HC.out (by omega) (by omega) hcap HN.out (arr_only HA.out HO.out HAN.out) hbg
  rw [show tnum ((zs.drop 4).take 2) = y3 from HY3.out.symm] at t1
  have T1 := hide t1
  clear t1
  refine T1.out.mono ?_
  rintro e u62 ⟨rfl, hc2, hg2⟩
  have HF2 := hide (HF.out.only (Only.of_some hg2) HNF.out)
  have HO2 := hide (HO.out.trans (only_g (F := F) hg2))
  obtain ⟨f0, f1, f2, f3, f4, f5, f6, f7, f8, f9, f10, ff⟩ := HF2.out.cells
  have HF3 := hide (HF2.out.set3 y3)
  have HC3 : Hid (Cur (u62.setCell ⟨F, 3, none⟩ (.int .i64 y3)) g (.slice (some ⟨b, off, none⟩) n cap) 6 .nilIface) := hide (hc2.kept (grown_cell u62 F 3 _) HNE.out)
  have HO3 := hide (HO2.out.trans (only_cell (g := g) 3 (.int .i64 y3)))
  clear T1 hc2 hg2 HC HF HO HF2 HO2
  go_wp2_with fail
  generalize hV : u62.setCell ⟨F, 3, none⟩ (.int .i64 y3) = V62 at *
  clear hV f0 f1 f2 f3 f4 f5 f6 f7 f8 f9 f10 ff
  have HC := HC3
  have HF := HF3
  have HO := HO3
  clear HC3 HF3 HO3
  have t1 := tk2 g 6 n cap b off zs V62 HC.out (by omega) (by omega) hcap HN.out (arr_only HA.out HO.out HAN.out) hbg
  rw [show tnum ((zs.drop 6).take 2) = y4 from HY4.out.symm] at t1
  have T1 := hide t1
  clear t1
  refine T1.out.mono ?_
  rintro e u63 ⟨rfl, hc2, hg2⟩
  have HF2 := hide (HF.out.only (Only.of_some hg2) HNF.out)
  have HO2 := hide (HO.out.trans (only_g (F := F) hg2))
  obtain ⟨f0, f1, f2, f3, f4, f5, f6, f7, f8, f9, f10, ff⟩ := HF2.out.cells
  have HF3 := hide (HF2.out.set4 y4)
  have HC3 : Hid (Cur (u63.setCell ⟨F, 4, none⟩ (.int .i64 y4)) g (.slice (some ⟨b, off, none⟩) n cap) 8 .nilIface) := hide (hc2.kept (grown_cell u63 F 4 _) HNE.out)
  have HO3 := hide (HO2.out.trans (only_cell (g := g) 4 (.int .i64 y4)))
  clear T1 hc2 hg2 HC HF HO HF2 HO2
  go_wp2_with fail
  generalize hV : u63.setCell ⟨F, 4, none⟩ (.int .i64 y4) = V63 at *
  clear hV f0 f1 f2 f3 f4 f5 f6 f7 f8 f9 f10 ff
  have HC := HC3
  have HF := HF3
  have HO := HO3
  clear HC3 HF3 HO3
  have t1 := tk1 g 8 n cap b off zs V63 HC.out (by omega) (by omega) hcap HN.out (arr_only HA.out HO.out HAN.out) hbg
  rw [show tnum ((zs.drop 8).take 1) = y5 from HY5.out.symm] at t1
  have T1 := hide t1
  clear t1
  refine T1.out.mono ?_
  rintro e u64 ⟨rfl, hc2, hg2⟩
  have HF2 := hide (HF.out.only (Only.of_some hg2) HNF.out)
  have HO2 := hide (HO.out.trans (only_g (F := F) hg2))
  obtain ⟨f0, f1, f2, f3, f4, f5, f6, f7, f8, f9, f10, ff⟩ := HF2.out.cells
  have HF3 := hide (HF2.out.set5 y5)
  have HC3 : Hid (Cur (u64.setCell ⟨F, 5, none⟩ (.int .i64 y5)) g (.slice (some ⟨b, off, none⟩) n cap) 9 .nilIface) := hide (hc2.kept (grown_cell u64 F 5 _) HNE.out)
  have HO3 := hide (HO2.out.trans (only_cell (g := g) 5 (.int .i64 y5)))
  clear T1 hc2 hg2 HC HF HO HF2 HO2
  go_wp2_with fail
  generalize hV : u64.setCell ⟨F, 5, none⟩ (.int .i64 y5) = V64 at *
  clear hV f0 f1 f2 f3 f4 f5 f6 f7 f8 f9 f10 ff
  have HC := HC3
  have HF := HF3
  have HO := HO3
  clear HC3 HF3 HO3
  have t1 := tk1 g 9 n cap b off zs V64 HC.out (by omega) (by omega) hcap HN.out (arr_only HA.out HO.out HAN.out) hbg
  rw [show tnum ((zs.drop 9).take 1) = y6 from HY6.out.symm] at t1
  have T1 := hide t1
  clear t1
  refine T1.out.mono ?_
  rintro e u65 ⟨rfl, hc2, hg2⟩
  have HF2 := hide (HF.out.only (Only.of_some hg2) HNF.out)
  have HO2 := hide (HO.out.trans (only_g (F := F) hg2))
  obtain ⟨f0, f1, f2, f3, f4, f5, f6, f7, f8, f9, f10, ff⟩ := HF2.out.cells
  have HF3 := hide (HF2.out.set6 y6)
  have HC3 : Hid (Cur (u65.setCell ⟨F, 6, none⟩ (.int .i64 y6)) g (.slice (some ⟨b, off, none⟩) n cap) 10 .nilIface) := hide (hc2.kept (grown_cell u65 F 6 _) HNE.out)
  have HO3 := hide (HO2.out.trans (only_cell (g := g) 6 (.int .i64 y6)))
  clear T1 hc2 hg2 HC HF HO HF2 HO2
  go_wp2_with fail
  generalize hV : u65.setCell ⟨F, 6, none⟩ (.int .i64 y6) = V65 at *
  clear hV f0 f1 f2 f3 f4 f5 f6 f7 f8 f9 f10 ff
  have HC := HC3
  have HF := HF3
  have HO := HO3
  clear HC3 HF3 HO3
  have T1 := hide (ps2 g 10 n cap b off V65 HC.out (by omega) (by omega) hcap)
  refine T1.out.mono ?_
  rintro e V66 ⟨rfl, hc2, hg2⟩
  have HF2 := hide (HF.out.only (Only.of_some hg2) HNF.out)
  have HO2 := hide (HO.out.trans (only_g (F := F) hg2))
  have HC2 : Hid (Cur V66 g (.slice (some ⟨b, off, none⟩) n cap) 12 .nilIface) := hide hc2
  clear T1 hc2 hg2 HC HF HO
  have HC := HC2
  have HF := HF2
  have HO := HO2
  clear HC2 HF2 HO2
  go_wp2_with fail
  have t1 := tk4 g 12 n cap b off zs V66 HC.out (by omega) (by omega) hcap HN.out (arr_only HA.out HO.out HAN.out) hbg
  rw [show tnum ((zs.drop 12).take 4) = y7 from HY7.out.symm] at t1
  have T1 := hide t1
  clear t1
  refine T1.out.mono ?_
  rintro e u67 ⟨rfl, hc2, hg2⟩
  have HF2 := hide (HF.out.only (Only.of_some hg2) HNF.out)
  have HO2 := hide (HO.out.trans (only_g (F := F) hg2))
  obtain ⟨f0, f1, f2, f3, f4, f5, f6, f7, f8, f9, f10, ff⟩ := HF2.out.cells
  have HF3 := hide (HF2.out.set7 y7)
  have HC3 : Hid (Cur (u67.setCell ⟨F, 7, none⟩ (.int .i64 y7)) g (.slice (some ⟨b, off, none⟩) n cap) 16 .nilIface) := hide (hc2.kept (grown_cell u67 F 7 _) HNE.out)
  have HO3 := hide (HO2.out.trans (only_cell (g := g) 7 (.int .i64 y7)))
  clear T1 hc2 hg2 HC HF HO HF2 HO2
  go_wp2_with fail
  generalize hV : u67.setCell ⟨F, 7, none⟩ (.int .i64 y7) = V67 at *
  clear hV f0 f1 f2 f3 f4 f5 f6 f7 f8 f9 f10 ff
  have HC := HC3
  have HF := HF3
  have HO := HO3
  clear HC3 HF3 HO3
  have t1 := tk4 g 16 n cap b off zs V67 HC.out (by omega) (by omega) hcap HN.out (arr_only HA.out HO.out HAN.out) hbg
  rw [show tnum ((zs.drop 16).take 4) = y8 from HY8.out.symm] at t1
  have T1 := hide t1
  clear t1
  refine T1.out.mono ?_
  rintro e u68 ⟨rfl, hc2, hg2⟩
  have HF2 := hide (HF.out.only (Only.of_some hg2) HNF.out)
  have HO2 := hide (HO.out.trans (only_g (F := F) hg2))
  obtain ⟨f0, f1, f2, f3, f4, f5, f6, f7, f8, f9, f10, ff⟩ := HF2.out.cells
  have HF3 := hide (HF2.out.set8 y8)
  have HC3 : Hid (Cur (u68.setCell ⟨F, 8, none⟩ (.int .i64 y8)) g (.slice (some ⟨b, off, none⟩) n cap) 20 .nilIface) := hide (hc2.kept (grown_cell u68 F 8 _) HNE.out)
  have HO3 := hide (HO2.out.trans (only_cell (g := g) 8 (.int .i64 y8)))
  clear T1 hc2 hg2 HC HF HO HF2 HO2
  go_wp2_with fail
  generalize hV : u68.setCell ⟨F, 8, none⟩ (.int .i64 y8) = V68 at *
  clear hV f0 f1 f2 f3 f4 f5 f6 f7 f8 f9 f10 ff
  have HC := HC3
  have HF := HF3
  have HO := HO3
  clear HC3 HF3 HO3
  obtain ⟨f0, f1, f2, f3, f4, f5, f6, f7, f8, f9, f10, ff⟩ := HF.out.cells
  refine (hsize_walk F y0 V68 f0).mono ?_
  rintro e v ⟨rfl, hv⟩
  rw [hv]
  clear hv f0 f1 f2 f3 f4 f5 f6 f7 f8 f9 f10 ff
  have hks := HKO.out
  go_wp2_with fail
  have tb := takeBytes_any g 20 n cap b off ko zs V68 HC.out (by omega) HKN.out hcap HN.out (arr_only HA.out HO.out HAN.out) hbg
  have TB := hide tb
  clear tb hks
  refine TB.out.mono ?_
  rintro e U ⟨vv, rfl, hO, hc2, hg2⟩
  have hO' := hO.mono HO.out.size
  clear hO
  have HOW := hide hO'
  clear hO'
  obtain ⟨ao, co, rfl, _⟩ := own_slice HOW.out
  have HLO : Hid (((zs.drop 20).take ko).length = ko) := hide (by rw [List.length_take, List.length_drop, HN.out]; have := HKN.out; omega)
  rw [HLO.out] at HOW ⊢
  have HF2 := hide (HF.out.only (Only.of_some hg2) HNF.out)
  have HO2 := hide (HO.out.trans (only_g (F := F) hg2))
  obtain ⟨f0, f1, f2, f3, f4, f5, f6, f7, f8, f9, f10, ff⟩ := HF2.out.cells
  have HF3 := hide (HF2.out.set9 (.slice ao ko co))
  have HC3 := hide (hc2.kept (grown_cell U F 9 (.slice ao ko co)) HNE.out)
  have HO3 := hide (HO2.out.trans (only_cell (g := g) 9 (.slice ao ko co)))
  have HOW3 := hide (HOW.out.setBelow (a := ⟨F, 9, none⟩) hFl (.slice ao ko co))
  clear TB hc2 hg2 HC HF HO HF2 HO2 HOW
  go_wp2_with fail
  generalize hV : U.setCell ⟨F, 9, none⟩ (.slice ao ko co) = V at *
  clear hV f0 f1 f2 f3 f4 f5 f6 f7 f8 f9 f10 ff
  refine (passed_walk g (20 + ko) n cap b off .nilIface V HC3.out (by have := HKN.out; omega) (by omega)).mono ?_
  rintro e v ⟨rfl, mp, rfl⟩
  have hk := checksum_walk (some ⟨b, off, none⟩) (20 + ko) cap (zs.take (20 + ko)) (V.drewN mp) (by rw [List.length_take, HN.out]; have := HKN.out; omega) (show Arr (V.drewN mp) _ _ from (arr_only HA.out HO3.out HAN.out).take (20 + ko)) (by have := HKN.out; omega)
  have HLT : Hid ((zs.take (20 + ko)).length = 20 + ko) := hide (by rw [List.length_take, HN.out]; have := HKN.out; omega)
  have CK : Hid (Calls Tryz.prog 43 #[.slice (some ⟨b, off, none⟩) (20 + ko) cap] (V.drewN mp) fun e w' => e = .returned (.int .i64 (csum (zs.take (20 + ko)))) ∧ Below (V.drewN mp).heap.size (V.drewN mp) w') := hide (hk.mono (by rintro e w' ⟨rfl, hb, _⟩; refine ⟨?_, hb⟩; unfold csum; rw [HLT.out]))
  clear hk
  generalize csum (zs.take (20 + ko)) = cs at *
  go_wp2_with fail
  refine CK.out.mono ?_
  rintro e X ⟨rfl, hbk⟩
  have hbX : Below V.heap.size V X := ⟨hbk.os, hbk.tape, hbk.output, hbk.size, hbk.block⟩
  have HF4 := hide (HF3.out.only (Only.of_below (S := [g]) hbX) HNF.out)
  have HO4 := hide (HO3.out.trans (Only.of_below hbX))
  have HC4 := hide (HC3.out.below hbX HC3.out.lt)
  have HOW4 := hide (HOW3.out.next hbX)
  clear HC3 HF3 HO3 HOW3 hbk hbX CK
  have hcs := HE.out
  go_wp2_with fail
  have cd := demand_if g _ _ 3 E X HC4.out
  rw [HEV.out] at cd
  have CD := hide cd
  clear cd
  refine CD.out.mono ?_
  rintro e Z ⟨rfl, hc5, hg5⟩
  have HC5 := hide hc5
  have HF5 := hide (HF4.out.only (Only.of_some hg5) HNF.out)
  have HO5 := hide (HO4.out.trans (only_g (F := F) hg5))
  have HOW5 := hide (HOW4.out.only (Only.of_some hg5) (fun b hb => by have := HOW4.out.ge b hb; simp; omega))
  clear hc5 hg5 HC4 HF4 HO4 HOW4 hcs CD
  go_wp2_with fail
  go_end0
  exact ⟨ao, co, rfl, HC5.out, HF5.out, HOW5.out, HO5.out⟩
set_option maxRecDepth 100000
def ihl (zs : List Int) : Int := (zs.getD 0 0 % 16) * 4
def rhC (zs : List Int) : Int := if zs.length < 20 then 2 else if zs.getD 0 0 / 16 ≠ 4 then 4 else if ihl zs < 20 ∨ (zs.length : Int) < ihl zs then 5 else if csum (zs.take (ihl zs).toNat) ≠ 0 then 3 else 0
set_option maxRecDepth 100000
theorem land_bit (n k : Nat) : n &&& 2 ^ k = n / 2 ^ k % 2 * 2 ^ k := by
  have ht : n.testBit k = decide (n / 2 ^ k % 2 = 1) := Nat.testBit_eq_decide_div_mod_eq
  rcases Nat.mod_two_eq_zero_or_one (n / 2 ^ k) with h | h
  · rw [h, Nat.zero_mul]
    apply Nat.eq_of_testBit_eq
    intro i
    rw [Nat.testBit_and, Nat.testBit_two_pow, Nat.zero_testBit]
    by_cases hi : k = i
    · subst hi; rw [ht, h]; rfl
    · simp [hi]
  · rw [h, Nat.one_mul]
    apply Nat.eq_of_testBit_eq
    intro i
    rw [Nat.testBit_and, Nat.testBit_two_pow]
    by_cases hi : k = i
    · subst hi; rw [ht, h]; simp
    · simp [hi]
theorem and_bit (k : Nat) (hk : k ≤ 15) (f : Int) (h0 : 0 ≤ f) (h1 : f ≤ 65535) : bits .and .i64 f ((2 ^ k : Nat) : Int) = ((f.toNat / 2 ^ k % 2 * 2 ^ k : Nat) : Int) := by
  obtain ⟨n, rfl⟩ := Int.eq_ofNat_of_zero_le h0
  have hk2 : 2 ^ k ≤ 32768 := by
    have : 2 ^ k ≤ 2 ^ 15 := Nat.pow_le_pow_right (by decide) hk
    exact this
  have hb : IntKind.i64.bits = 64 := rfl
  have e0 : (2 : Nat) ^ 64 = 18446744073709551616 := by decide
  have e1 : n % 18446744073709551616 = n := Nat.mod_eq_of_lt (by omega)
  have e2 : 2 ^ k % 18446744073709551616 = 2 ^ k := Nat.mod_eq_of_lt (by omega)
  have h2 : n / 2 ^ k % 2 * 2 ^ k ≤ 1 * 2 ^ k := Nat.mul_le_mul_right _ (by omega)
  simp only [bits, BitVec.ofInt_natCast, BitVec.toNat_and, BitVec.toNat_ofNat, hb, e0, e1, e2, land_bit, Int.toNat_natCast]
  exact wrap_i64' _ (by omega) (by omega)
theorem and_16384 (f : Int) (h0 : 0 ≤ f) (h1 : f ≤ 65535) : bits .and .i64 f 16384 = f / 16384 % 2 * 16384 := by
  have h : bits .and .i64 f 16384 = ((f.toNat / 16384 % 2 * 16384 : Nat) : Int) := and_bit 14 (by decide) f h0 h1
  rw [h]; omega
theorem and_8192 (f : Int) (h0 : 0 ≤ f) (h1 : f ≤ 65535) : bits .and .i64 f 8192 = f / 8192 % 2 * 8192 := by
  have h : bits .and .i64 f 8192 = ((f.toNat / 8192 % 2 * 8192 : Nat) : Int) := and_bit 13 (by decide) f h0 h1
  rw [h]; omega
theorem and_32768 (f : Int) (h0 : 0 ≤ f) (h1 : f ≤ 65535) : bits .and .i64 f 32768 = f / 32768 * 32768 := by
  have h : bits .and .i64 f 32768 = ((f.toNat / 32768 % 2 * 32768 : Nat) : Int) := and_bit 15 (by decide) f h0 h1
  rw [h]; omega
def dpW (zs : List Int) : Int := tnum ((zs.drop 2).take 2)
def dpF (zs : List Int) : Int := tnum ((zs.drop 6).take 2)
def dpC (zs : List Int) : Int := if rhC zs ≠ 0 then rhC zs else if dpW zs < ihl zs ∨ (zs.length : Int) < dpW zs then 5 else if 32768 ≤ dpF zs ∨ 65535 < dpF zs % 8192 * 8 + (dpW zs - ihl zs) then 1 else 0
def ResP (w0 w : World) : Prop := BoxRow w0 w #[.int .i64 0, .int .i64 0, .bool false, .bool false, .int .i64 0, .int .i64 0, .int .i64 0, .int .i64 0, .int .i64 0, .slice none 0 0, .slice none 0 0] 24
theorem ResP.start (w : World) : ResP w (w.alloc (.cells #[.int .i64 0, .int .i64 0, .bool false, .bool false, .int .i64 0, .int .i64 0, .int .i64 0, .int .i64 0, .int .i64 0, .slice none 0 0, .slice none 0 0] 24)) := BoxRow.start w _ _
theorem cellsP {w : World} {g t : Nat} {u0 u1 u2 u3 u4 u5 u6 u7 u8 u9 u10 : Value} (hh : w.heap[g]? = some (.cells #[u0, u1, u2, u3, u4, u5, u6, u7, u8, u9, u10] t)) : w.cell? ⟨g, 0, none⟩ = some u0 ∧ w.cell? ⟨g, 1, none⟩ = some u1 ∧ w.cell? ⟨g, 2, none⟩ = some u2 ∧ w.cell? ⟨g, 3, none⟩ = some u3 ∧ w.cell? ⟨g, 4, none⟩ = some u4 ∧ w.cell? ⟨g, 5, none⟩ = some u5 ∧ w.cell? ⟨g, 6, none⟩ = some u6 ∧ w.cell? ⟨g, 7, none⟩ = some u7 ∧ w.cell? ⟨g, 8, none⟩ = some u8 ∧ w.cell? ⟨g, 9, none⟩ = some u9 ∧ w.cell? ⟨g, 10, none⟩ = some u10 ∧ ∀ o, w.frozen? ⟨g, o, none⟩ = false :=
  ⟨cell_of_row w g 0 _ _ _ hh, cell_of_row w g 1 _ _ _ hh, cell_of_row w g 2 _ _ _ hh, cell_of_row w g 3 _ _ _ hh, cell_of_row w g 4 _ _ _ hh, cell_of_row w g 5 _ _ _ hh, cell_of_row w g 6 _ _ _ hh, cell_of_row w g 7 _ _ _ hh, cell_of_row w g 8 _ _ _ hh, cell_of_row w g 9 _ _ _ hh, cell_of_row w g 10 _ _ _ hh, fun o => frozen_of_row w g o _ _ hh⟩
theorem apart_of {w1 w2 : World} {B C : Nat} {v u : Value} {xs ys : List Int} (h : OwnB w1 B v xs) (k : OwnB w2 C u ys) (hC : w1.heap.size ≤ C) : ∀ b, v.ownBlock = some b → u.ownBlock ≠ some b := fun b e e' => by
  have := (h.1.lt b e).2
  have := (k.1.lt b e').1
  omega
theorem below_11 {w w' : World} {x0 x1 x2 x3 x4 x5 x6 x7 x8 x9 x10 : Value} (h : Below w.heap.size w w') : Below w.heap.size w (((((((((((w'.setCell ⟨w.heap.size, 0, none⟩ x0).setCell ⟨w.heap.size, 1, none⟩ x1).setCell ⟨w.heap.size, 2, none⟩ x2).setCell ⟨w.heap.size, 3, none⟩ x3).setCell ⟨w.heap.size, 4, none⟩ x4).setCell ⟨w.heap.size, 5, none⟩ x5).setCell ⟨w.heap.size, 6, none⟩ x6).setCell ⟨w.heap.size, 7, none⟩ x7).setCell ⟨w.heap.size, 8, none⟩ x8).setCell ⟨w.heap.size, 9, none⟩ x9).setCell ⟨w.heap.size, 10, none⟩ x10) := (((((((((((h.setCell (p := ⟨w.heap.size, 0, none⟩) (Nat.le_refl _) x0).setCell (p := ⟨w.heap.size, 1, none⟩) (Nat.le_refl _) x1).setCell (p := ⟨w.heap.size, 2, none⟩) (Nat.le_refl _) x2).setCell (p := ⟨w.heap.size, 3, none⟩) (Nat.le_refl _) x3).setCell (p := ⟨w.heap.size, 4, none⟩) (Nat.le_refl _) x4).setCell (p := ⟨w.heap.size, 5, none⟩) (Nat.le_refl _) x5).setCell (p := ⟨w.heap.size, 6, none⟩) (Nat.le_refl _) x6).setCell (p := ⟨w.heap.size, 7, none⟩) (Nat.le_refl _) x7).setCell (p := ⟨w.heap.size, 8, none⟩) (Nat.le_refl _) x8).setCell (p := ⟨w.heap.size, 9, none⟩) (Nat.le_refl _) x9).setCell (p := ⟨w.heap.size, 10, none⟩) (Nat.le_refl _) x10)
theorem bit_ne (q k : Int) (hk : 0 < k) : (q % 2 * k != 0) = decide (q % 2 = 1) := by
  have h2 : q % 2 = 0 ∨ q % 2 = 1 := by omega
  rcases h2 with h | h
  · rw [h]; simp
  · rw [h]; simp; omega
/-- What DecodeIP tells of bytes. -/
def dpI (zs : List Int) (x : Int) : Int := if dpC zs = 0 then x else 0
def dpB (zs : List Int) (x : Bool) : Bool := if dpC zs = 0 then x else false
def dpL (zs : List Int) (l : List Int) : List Int := if dpC zs = 0 then l else []
set_option maxRecDepth 100000
abbrev zeroRP : Obj := .cells #[.int .i64 0, .int .i64 0, .int .i64 0, .int .i64 0, .int .i64 0, .int .i64 0, .int .i64 0, .int .i64 0, .int .i64 0, .slice none 0 0, .slice none 0 0] 77
/-- The result's box and the packet's, laid. -/
abbrev tpW (w : World) : World := (w.alloc zeroRP).alloc zeroRP
theorem tpW_size (w : World) : (tpW w).heap.size = w.heap.size + 2 := by
  have h1 := World.size_alloc w zeroRP
  have h2 := World.size_alloc (w.alloc zeroRP) zeroRP
  show ((w.alloc zeroRP).alloc zeroRP).heap.size = _
  omega
theorem tpW_facts (w : World) (g p : Nat) (bv ev : Value) (h : Cur w g bv p ev) : Cur (tpW w) g bv p ev ∧ FR (tpW w) w.heap.size 0 0 0 0 0 0 0 0 0 (.slice none 0 0) (.slice none 0 0) ∧ FR (tpW w) (w.heap.size + 1) 0 0 0 0 0 0 0 0 0 (.slice none 0 0) (.slice none 0 0) ∧ Below w.heap.size w (tpW w) ∧ (tpW w).heap.size = w.heap.size + 2 := by
  have hs := World.size_alloc w zeroRP
  have h1 := (Below.refl w.heap.size w).alloc (Nat.le_refl _) zeroRP
  have h2 := (Below.refl (w.alloc zeroRP).heap.size (w.alloc zeroRP)).alloc (Nat.le_refl _) zeroRP
  refine ⟨(h.below h1 h.lt).below h2 (by have := h.lt; omega), (h2.block _ (by omega)).trans (heap_alloc_new _ _), ?_, h1.trans (h2.mono (by omega)), tpW_size w⟩
  unfold FR
  rw [← hs]
  exact heap_alloc_new _ _
theorem only_new {w w' : World} {g : Nat} {S : List Nat} (h : Only S w w') (hS : ∀ x ∈ S, x = g ∨ w.heap.size ≤ x) : Only [g] w w' :=
  ⟨h.os, h.tape, h.output, h.size, fun k hk hn => h.block k hk (fun hm => by rcases hS k hm with e | e; exact hn (by simp [e]); omega)⟩
theorem only_set {w w1 : World} {S : List Nat} {R : Nat} (h : Only S w w1) (hR : w.heap.size ≤ R) (i : Nat) (u : Value) : Only S w (w1.setCell ⟨R, i, none⟩ u) :=
  ⟨h.os, h.tape, h.output, by simpa using h.size, fun k hk hn => (heap_setCell_other w1 ⟨R, i, none⟩ k u (fun e => by simp at e; omega)).trans (h.block k hk hn)⟩
theorem only_11 {w w1 : World} {S : List Nat} {R : Nat} {u0 u1 u2 u3 u4 u5 u6 u7 u8 u9 u10 : Value} (h : Only S w w1) (hR : w.heap.size ≤ R) : Only S w (((((((((((w1.setCell ⟨R, 0, none⟩ u0).setCell ⟨R, 1, none⟩ u1).setCell ⟨R, 2, none⟩ u2).setCell ⟨R, 3, none⟩ u3).setCell ⟨R, 4, none⟩ u4).setCell ⟨R, 5, none⟩ u5).setCell ⟨R, 6, none⟩ u6).setCell ⟨R, 7, none⟩ u7).setCell ⟨R, 8, none⟩ u8).setCell ⟨R, 9, none⟩ u9).setCell ⟨R, 10, none⟩ u10) :=
  (only_set (only_set (only_set (only_set (only_set (only_set (only_set (only_set (only_set (only_set (only_set h hR 0 u0) hR 1 u1) hR 2 u2) hR 3 u3) hR 4 u4) hR 5 u5) hR 6 u6) hR 7 u7) hR 8 u8) hR 9 u9) hR 10 u10)
theorem cur_11 {w1 : World} {g p R : Nat} {bv ev u0 u1 u2 u3 u4 u5 u6 u7 u8 u9 u10 : Value} (h : Cur w1 g bv p ev) (hR : some g ≠ some R) : Cur (((((((((((w1.setCell ⟨R, 0, none⟩ u0).setCell ⟨R, 1, none⟩ u1).setCell ⟨R, 2, none⟩ u2).setCell ⟨R, 3, none⟩ u3).setCell ⟨R, 4, none⟩ u4).setCell ⟨R, 5, none⟩ u5).setCell ⟨R, 6, none⟩ u6).setCell ⟨R, 7, none⟩ u7).setCell ⟨R, 8, none⟩ u8).setCell ⟨R, 9, none⟩ u9).setCell ⟨R, 10, none⟩ u10) g bv p ev :=
  (Cur.kept (Cur.kept (Cur.kept (Cur.kept (Cur.kept (Cur.kept (Cur.kept (Cur.kept (Cur.kept (Cur.kept (Cur.kept h (grown_cell _ R 0 u0) hR) (grown_cell _ R 1 u1) hR) (grown_cell _ R 2 u2) hR) (grown_cell _ R 3 u3) hR) (grown_cell _ R 4 u4) hR) (grown_cell _ R 5 u5) hR) (grown_cell _ R 6 u6) hR) (grown_cell _ R 7 u7) hR) (grown_cell _ R 8 u8) hR) (grown_cell _ R 9 u9) hR) (grown_cell _ R 10 u10) hR)
theorem ownb_11 {w1 : World} {B R : Nat} {v u0 u1 u2 u3 u4 u5 u6 u7 u8 u9 u10 : Value} {zs : List Int} (h : OwnB w1 B v zs) (hR : R < B) : OwnB (((((((((((w1.setCell ⟨R, 0, none⟩ u0).setCell ⟨R, 1, none⟩ u1).setCell ⟨R, 2, none⟩ u2).setCell ⟨R, 3, none⟩ u3).setCell ⟨R, 4, none⟩ u4).setCell ⟨R, 5, none⟩ u5).setCell ⟨R, 6, none⟩ u6).setCell ⟨R, 7, none⟩ u7).setCell ⟨R, 8, none⟩ u8).setCell ⟨R, 9, none⟩ u9).setCell ⟨R, 10, none⟩ u10) B v zs :=
  (OwnB.setBelow (OwnB.setBelow (OwnB.setBelow (OwnB.setBelow (OwnB.setBelow (OwnB.setBelow (OwnB.setBelow (OwnB.setBelow (OwnB.setBelow (OwnB.setBelow (OwnB.setBelow h (a := ⟨R, 0, none⟩) hR u0) (a := ⟨R, 1, none⟩) hR u1) (a := ⟨R, 2, none⟩) hR u2) (a := ⟨R, 3, none⟩) hR u3) (a := ⟨R, 4, none⟩) hR u4) (a := ⟨R, 5, none⟩) hR u5) (a := ⟨R, 6, none⟩) hR u6) (a := ⟨R, 7, none⟩) hR u7) (a := ⟨R, 8, none⟩) hR u8) (a := ⟨R, 9, none⟩) hR u9) (a := ⟨R, 10, none⟩) hR u10)
theorem has_lit (F : Nat) (x fl : Int) (b : Bool) (w : World) (h : w.cell? ⟨F, 4, none⟩ = some (.int .i64 x)) (hb : (bits .and .i64 x fl != 0) = b) : Calls Tryz.prog 75 #[.pointer (some ⟨F, 0, none⟩), .int .i64 fl] w fun e w' => e = .returned (.bool b) ∧ w' = w := by
  have k := has_walk F x fl w h
  rw [hb] at k
  exact k
set_option maxRecDepth 100000
set_option maxHeartbeats 8000000 in
theorem takePacket_err (g n cap : Nat) (a : Option Addr) (c : Int) (w : World) (hc : Cur w g (.slice a n cap) 0 .nilIface) (hm : n ≤ 1048576)
    (hT : ∀ W F, Cur W g (.slice a n cap) 0 .nilIface → FR W F 0 0 0 0 0 0 0 0 0 (.slice none 0 0) (.slice none 0 0) → F ≠ g → Below w.heap.size w W → w.heap.size ≤ F → W.heap.size = w.heap.size + 2 → Calls Tryz.prog 50 #[.pointer (some ⟨F, 0, none⟩), .pointer (some ⟨g, 0, none⟩)] W fun e w' => ∃ (p : Nat) (y0 y1 y2 y3 y4 y5 y6 y7 y8 : Int) (ao : Option Addr) (lo co : Nat), e = .returned (.tuple #[]) ∧ Cur w' g (.slice a n cap) p (wErr c) ∧ p ≤ n ∧ FR w' F y0 y1 y2 y3 y4 y5 y6 y7 y8 (.slice ao lo co) (.slice none 0 0) ∧ (0 ≤ y0 ∧ y0 ≤ 255) ∧ (0 ≤ y2 ∧ y2 ≤ 65535) ∧ (0 ≤ y4 ∧ y4 ≤ 65535) ∧ Only [g, F] W w') :
    Calls Tryz.prog 40 #[.pointer (some ⟨g, 0, none⟩)] w fun e w' => ∃ (p : Nat) (y0 y1 y2 y3 y4 y5 y6 y7 y8 : Int) (ao : Option Addr) (lo co : Nat) (ap : Option Addr), e = .returned (.agg #[.int .i64 y0, .int .i64 y1, .int .i64 y2, .int .i64 y3, .int .i64 y4, .int .i64 y5, .int .i64 y6, .int .i64 y7, .int .i64 y8, .slice ao lo co, .slice ap 0 0]) ∧ Cur w' g (.slice a n cap) p (wErr c) ∧ Only [g] w w' := by
  have hgl := hc.lt
  have HT := hide hT
  have HI := hide (tpW_facts w g 0 _ _ hc)
  have HNF : Hid (w.heap.size + 1 ∉ [g]) := hide (by simp; omega)
  have HNR : Hid (w.heap.size ∉ [g]) := hide (by simp; omega)
  have HGR : Hid (some g ≠ some w.heap.size) := hide (by intro e; cases e; omega)
  clear hc hT
  go_enter Tryz.func40, Tryz.ntmps40
  go_wp2_with fail
  generalize hW : tpW w = W at *
  unfold tpW at hW
  rw [hW]
  clear hW
  refine (HT.out W (w.heap.size + 1) HI.out.1 HI.out.2.2.1 (by omega) HI.out.2.2.2.1 (by omega) HI.out.2.2.2.2).mono ?_
  rintro e W1 ⟨p, y0, y1, y2, y3, y4, y5, y6, y7, y8, ao, lo, co, rfl, hc1, hp1, hf1, ⟨b0, b1⟩, ⟨b2, b3⟩, ⟨b4, b5⟩, ho1⟩
  have HC := hide hc1
  have HF := hide hf1
  have HR := hide (HI.out.2.1.only ho1 (by simp; omega))
  have HO : Hid (Only [g, w.heap.size + 1] w W1) := hide ((Only.of_below HI.out.2.2.2.1).trans ho1)
  clear HT HI hc1 hf1 ho1
  go_wp2_with fail
  by_cases h1 : y0 % 16 * 4 ≤ y2
  · skip
    have HC2 := hide (Cur.drew (w := W1) HC.out)
    have HF2 := hide (FR.drew (w := W1) HF.out)
    have HR2 := hide (FR.drew (w := W1) HR.out)
    have HO2 := hide (HO.out.trans (only_drew W1))
    refine region_tail 18 (by kernel_rfl) (by kernel_rfl) ?_
    clear HC HF HR HO
    generalize W1.drew = W2 at *
    have HC := HC2
    have HF := HF2
    have HR := HR2
    have HO := HO2
    clear HC2 HF2 HR2 HO2
    obtain ⟨f0, f1, f2, f3, f4, f5, f6, f7, f8, f9, f10, ff⟩ := HF.out.cells
    obtain ⟨c0, c1, c2, cf⟩ := HC.out.cells
    simp only [List.take_succ_cons, List.take_zero, List.drop_succ_cons, List.drop_zero]
    repeat (first | go_big_quiet_skip | (go_big_quiet_want; go_big_quiet_op; first | go_big_quiet_on | (apply Exists.intro; refine ⟨hsize_walk (w.heap.size + 1) y0 W2 f0, ?_⟩; go_big_quiet_on)))
    refine wpQuiet_nil ?_
    clear c0 c1 c2 cf f0 f1 f2 f3 f4 f5 f6 f7 f8 f9 f10 ff
    go_wp2_with fail
    refine (demand_err g _ _ c _ _ W2 HC.out).mono ?_
    rintro e v ⟨rfl, hv⟩
    rw [hv]
    clear hv
    go_wp2_with fail
    have HC2 := hide (Cur.drew (w := W2) HC.out)
    have HF2 := hide (FR.drew (w := W2) HF.out)
    have HR2 := hide (FR.drew (w := W2) HR.out)
    have HO2 := hide (HO.out.trans (only_drew W2))
    refine region_tail 7 (by kernel_rfl) (by kernel_rfl) ?_
    clear HC HF HR HO
    generalize W2.drew = W5 at *
    have HC := HC2
    have HF := HF2
    have HR := HR2
    have HO := HO2
    clear HC2 HF2 HR2 HO2
    obtain ⟨f0, f1, f2, f3, f4, f5, f6, f7, f8, f9, f10, ff⟩ := HF.out.cells
    obtain ⟨c0, c1, c2, cf⟩ := HC.out.cells
    simp only [List.take_succ_cons, List.take_zero, List.drop_succ_cons, List.drop_zero]
    repeat (first | go_big_quiet_skip | (go_big_quiet_want; go_big_quiet_op; first | go_big_quiet_on | (apply Exists.intro; refine ⟨hsize_walk (w.heap.size + 1) y0 W5 f0, ?_⟩; go_big_quiet_on)))
    refine wpQuiet_nil ?_
    clear c0 c1 c2 cf f0 f1 f2 f3 f4 f5 f6 f7 f8 f9 f10 ff
    go_wp2_with fail
    refine (takeBytes_err g _ n cap a c _ W5 HC.out (by omega) (by omega) (by omega) (by omega)).mono ?_
    rintro e U ⟨rfl, hbU⟩
    have HF2 := hide (HF.out.only (Only.of_below (S := [g]) hbU) HNF.out)
    have HR2 := hide (HR.out.only (Only.of_below (S := [g]) hbU) HNR.out)
    have HO2 := hide (HO.out.trans (Only.mono (T := [g, (w.heap.size + 1)]) (Only.of_below (S := [g]) hbU) (by simp)))
    have HC2 := hide (HC.out.below hbU HC.out.lt)
    clear HC HF HR HO
    have HC := HC2
    have HF := HF2
    have HR := HR2
    have HO := HO2
    clear HC2 HF2 HR2 HO2
    clear hbU
    generalize W5.heap.size = K at *
    obtain ⟨f0, f1, f2, f3, f4, f5, f6, f7, f8, f9, f10, ff⟩ := HF.out.cells
    have HF2 := hide (HF.out.set10 (.slice (some ⟨K, 0, none⟩) 0 0))
    have HC2 := hide (HC.out.kept (grown_cell U (w.heap.size + 1) 10 (.slice (some ⟨K, 0, none⟩) 0 0)) (by intro e; cases e; omega))
    have HR2 := hide (HR.out.only (Only.of_some (grown_cell U (w.heap.size + 1) 10 (.slice (some ⟨K, 0, none⟩) 0 0))) (by simp))
    have HO2 := hide (HO.out.trans (only_cell (g := g) 10 (.slice (some ⟨K, 0, none⟩) 0 0)))
    clear HC HF HR HO
    go_wp2_with fail
    generalize hV : U.setCell ⟨w.heap.size + 1, 10, none⟩ (.slice (some ⟨K, 0, none⟩) 0 0) = W6 at *
    clear hV f0 f1 f2 f3 f4 f5 f6 f7 f8 f9 f10 ff
    have HC := HC2
    have HF := HF2
    have HR := HR2
    have HO := HO2
    clear HC2 HF2 HR2 HO2
    cases hh : (bits .and .i64 y4 32768 != 0) with
    | true =>
      have HC2 := hide (Cur.drew (w := W6) HC.out)
      have HF2 := hide (FR.drew (w := W6) HF.out)
      have HR2 := hide (FR.drew (w := W6) HR.out)
      have HO2 := hide (HO.out.trans (only_drew W6))
      refine region_tail 11 (by kernel_rfl) (by kernel_rfl) ?_
      clear HC HF HR HO
      generalize W6.drew = W7 at *
      have HC := HC2
      have HF := HF2
      have HR := HR2
      have HO := HO2
      clear HC2 HF2 HR2 HO2
      obtain ⟨f0, f1, f2, f3, f4, f5, f6, f7, f8, f9, f10, ff⟩ := HF.out.cells
      obtain ⟨c0, c1, c2, cf⟩ := HC.out.cells
      simp only [List.take_succ_cons, List.take_zero, List.drop_succ_cons, List.drop_zero]
      repeat (first | go_big_quiet_skip | (go_big_quiet_want; go_big_quiet_op; first | go_big_quiet_on | (apply Exists.intro; refine ⟨has_lit (w.heap.size + 1) y4 32768 true W7 f4 hh, ?_⟩; go_big_quiet_on) | (apply Exists.intro; refine ⟨hoffset_walk (w.heap.size + 1) y4 W7 f4, ?_⟩; go_big_quiet_on) | (apply Exists.intro; refine ⟨within_walk _ _ _ _ W7 (by omega) (by omega) (by omega), ?_⟩; go_big_quiet_on)))
      refine wpQuiet_nil ?_
      clear c0 c1 c2 cf f0 f1 f2 f3 f4 f5 f6 f7 f8 f9 f10 ff
      go_wp2_with fail
      refine (demand_err g _ _ c _ _ W7 HC.out).mono ?_
      rintro e v ⟨rfl, hv⟩
      rw [hv]
      clear hv
      obtain ⟨f0, f1, f2, f3, f4, f5, f6, f7, f8, f9, f10, ff⟩ := HF.out.cells
      obtain ⟨d0, d1, d2, d3, d4, d5, d6, d7, d8, d9, d10, df⟩ := HR.out.cells
      go_wp2_with fail
      exact bodyPost_ret (v := .agg #[.int .i64 y0, .int .i64 y1, .int .i64 y2, .int .i64 y3, .int .i64 y4, .int .i64 y5, .int .i64 y6, .int .i64 y7, .int .i64 y8, .slice ao lo co, .slice (some ⟨K, 0, none⟩) 0 0]) (by simp [results, Tryz.results40, go_sem, d0, d1, d2, d3, d4, d5, d6, d7, d8, d9, d10]) rfl ⟨_, y0, y1, y2, y3, y4, y5, y6, y7, y8, _, _, _, _, rfl, cur_11 HC.out HGR.out, only_new (only_11 HO.out (Nat.le_refl _)) (by intro x hx; simp at hx; omega)⟩
    | false =>
      have HC2 := hide (Cur.drew (w := W6) HC.out)
      have HF2 := hide (FR.drew (w := W6) HF.out)
      have HR2 := hide (FR.drew (w := W6) HR.out)
      have HO2 := hide (HO.out.trans (only_drew W6))
      refine region_tail 11 (by kernel_rfl) (by kernel_rfl) ?_
      clear HC HF HR HO
      generalize W6.drew = W7 at *
      have HC := HC2
      have HF := HF2
      have HR := HR2
      have HO := HO2
      clear HC2 HF2 HR2 HO2
      obtain ⟨f0, f1, f2, f3, f4, f5, f6, f7, f8, f9, f10, ff⟩ := HF.out.cells
      obtain ⟨c0, c1, c2, cf⟩ := HC.out.cells
      simp only [List.take_succ_cons, List.take_zero, List.drop_succ_cons, List.drop_zero]
      repeat (first | go_big_quiet_skip | (go_big_quiet_want; go_big_quiet_op; first | go_big_quiet_on | (apply Exists.intro; refine ⟨has_lit (w.heap.size + 1) y4 32768 false W7 f4 hh, ?_⟩; go_big_quiet_on) | (apply Exists.intro; refine ⟨hoffset_walk (w.heap.size + 1) y4 W7 f4, ?_⟩; go_big_quiet_on) | (apply Exists.intro; refine ⟨within_walk _ _ _ _ W7 (by omega) (by omega) (by omega), ?_⟩; go_big_quiet_on)))
      refine wpQuiet_nil ?_
      clear c0 c1 c2 cf f0 f1 f2 f3 f4 f5 f6 f7 f8 f9 f10 ff
      go_wp2_with fail
      refine (demand_err g _ _ c _ _ W7 HC.out).mono ?_
      rintro e v ⟨rfl, hv⟩
      rw [hv]
      clear hv
      obtain ⟨f0, f1, f2, f3, f4, f5, f6, f7, f8, f9, f10, ff⟩ := HF.out.cells
      obtain ⟨d0, d1, d2, d3, d4, d5, d6, d7, d8, d9, d10, df⟩ := HR.out.cells
      go_wp2_with fail
      exact bodyPost_ret (v := .agg #[.int .i64 y0, .int .i64 y1, .int .i64 y2, .int .i64 y3, .int .i64 y4, .int .i64 y5, .int .i64 y6, .int .i64 y7, .int .i64 y8, .slice ao lo co, .slice (some ⟨K, 0, none⟩) 0 0]) (by simp [results, Tryz.results40, go_sem, d0, d1, d2, d3, d4, d5, d6, d7, d8, d9, d10]) rfl ⟨_, y0, y1, y2, y3, y4, y5, y6, y7, y8, _, _, _, _, rfl, cur_11 HC.out HGR.out, only_new (only_11 HO.out (Nat.le_refl _)) (by intro x hx; simp at hx; omega)⟩
  · have h2 : decide (y0 % 16 * 4 ≤ y2) = false := decide_eq_false h1
    have HC2 := hide (Cur.drew (w := W1) HC.out)
    have HF2 := hide (FR.drew (w := W1) HF.out)
    have HR2 := hide (FR.drew (w := W1) HR.out)
    have HO2 := hide (HO.out.trans (only_drew W1))
    refine region_tail 18 (by kernel_rfl) (by kernel_rfl) ?_
    clear HC HF HR HO
    generalize W1.drew = W2 at *
    have HC := HC2
    have HF := HF2
    have HR := HR2
    have HO := HO2
    clear HC2 HF2 HR2 HO2
    obtain ⟨f0, f1, f2, f3, f4, f5, f6, f7, f8, f9, f10, ff⟩ := HF.out.cells
    obtain ⟨c0, c1, c2, cf⟩ := HC.out.cells
    simp only [List.take_succ_cons, List.take_zero, List.drop_succ_cons, List.drop_zero]
    repeat (first | go_big_quiet_skip | (go_big_quiet_want; go_big_quiet_op; first | go_big_quiet_on | (apply Exists.intro; refine ⟨hsize_walk (w.heap.size + 1) y0 W2 f0, ?_⟩; go_big_quiet_on)))
    refine wpQuiet_nil ?_
    clear c0 c1 c2 cf f0 f1 f2 f3 f4 f5 f6 f7 f8 f9 f10 ff
    go_wp2_with fail
    refine (demand_err g _ _ c _ _ W2 HC.out).mono ?_
    rintro e v ⟨rfl, hv⟩
    rw [hv]
    clear hv
    go_wp2_with fail
    have HC2 := hide (Cur.drew (w := W2) HC.out)
    have HF2 := hide (FR.drew (w := W2) HF.out)
    have HR2 := hide (FR.drew (w := W2) HR.out)
    have HO2 := hide (HO.out.trans (only_drew W2))
    refine region_tail 7 (by kernel_rfl) (by kernel_rfl) ?_
    clear HC HF HR HO
    generalize W2.drew = W5 at *
    have HC := HC2
    have HF := HF2
    have HR := HR2
    have HO := HO2
    clear HC2 HF2 HR2 HO2
    obtain ⟨f0, f1, f2, f3, f4, f5, f6, f7, f8, f9, f10, ff⟩ := HF.out.cells
    obtain ⟨c0, c1, c2, cf⟩ := HC.out.cells
    simp only [List.take_succ_cons, List.take_zero, List.drop_succ_cons, List.drop_zero]
    repeat (first | go_big_quiet_skip | (go_big_quiet_want; go_big_quiet_op; first | go_big_quiet_on | (apply Exists.intro; refine ⟨hsize_walk (w.heap.size + 1) y0 W5 f0, ?_⟩; go_big_quiet_on)))
    refine wpQuiet_nil ?_
    clear c0 c1 c2 cf f0 f1 f2 f3 f4 f5 f6 f7 f8 f9 f10 ff
    go_wp2_with fail
    refine (takeBytes_err g _ n cap a c _ W5 HC.out (by omega) (by omega) (by omega) (by omega)).mono ?_
    rintro e U ⟨rfl, hbU⟩
    have HF2 := hide (HF.out.only (Only.of_below (S := [g]) hbU) HNF.out)
    have HR2 := hide (HR.out.only (Only.of_below (S := [g]) hbU) HNR.out)
    have HO2 := hide (HO.out.trans (Only.mono (T := [g, (w.heap.size + 1)]) (Only.of_below (S := [g]) hbU) (by simp)))
    have HC2 := hide (HC.out.below hbU HC.out.lt)
    clear HC HF HR HO
    have HC := HC2
    have HF := HF2
    have HR := HR2
    have HO := HO2
    clear HC2 HF2 HR2 HO2
    clear hbU
    generalize W5.heap.size = K at *
    obtain ⟨f0, f1, f2, f3, f4, f5, f6, f7, f8, f9, f10, ff⟩ := HF.out.cells
    have HF2 := hide (HF.out.set10 (.slice (some ⟨K, 0, none⟩) 0 0))
    have HC2 := hide (HC.out.kept (grown_cell U (w.heap.size + 1) 10 (.slice (some ⟨K, 0, none⟩) 0 0)) (by intro e; cases e; omega))
    have HR2 := hide (HR.out.only (Only.of_some (grown_cell U (w.heap.size + 1) 10 (.slice (some ⟨K, 0, none⟩) 0 0))) (by simp))
    have HO2 := hide (HO.out.trans (only_cell (g := g) 10 (.slice (some ⟨K, 0, none⟩) 0 0)))
    clear HC HF HR HO
    go_wp2_with fail
    generalize hV : U.setCell ⟨w.heap.size + 1, 10, none⟩ (.slice (some ⟨K, 0, none⟩) 0 0) = W6 at *
    clear hV f0 f1 f2 f3 f4 f5 f6 f7 f8 f9 f10 ff
    have HC := HC2
    have HF := HF2
    have HR := HR2
    have HO := HO2
    clear HC2 HF2 HR2 HO2
    cases hh : (bits .and .i64 y4 32768 != 0) with
    | true =>
      have HC2 := hide (Cur.drew (w := W6) HC.out)
      have HF2 := hide (FR.drew (w := W6) HF.out)
      have HR2 := hide (FR.drew (w := W6) HR.out)
      have HO2 := hide (HO.out.trans (only_drew W6))
      refine region_tail 11 (by kernel_rfl) (by kernel_rfl) ?_
      clear HC HF HR HO
      generalize W6.drew = W7 at *
      have HC := HC2
      have HF := HF2
      have HR := HR2
      have HO := HO2
      clear HC2 HF2 HR2 HO2
      obtain ⟨f0, f1, f2, f3, f4, f5, f6, f7, f8, f9, f10, ff⟩ := HF.out.cells
      obtain ⟨c0, c1, c2, cf⟩ := HC.out.cells
      simp only [List.take_succ_cons, List.take_zero, List.drop_succ_cons, List.drop_zero]
      repeat (first | go_big_quiet_skip | (go_big_quiet_want; go_big_quiet_op; first | go_big_quiet_on | (apply Exists.intro; refine ⟨has_lit (w.heap.size + 1) y4 32768 true W7 f4 hh, ?_⟩; go_big_quiet_on) | (apply Exists.intro; refine ⟨hoffset_walk (w.heap.size + 1) y4 W7 f4, ?_⟩; go_big_quiet_on) | (apply Exists.intro; refine ⟨within_walk _ _ _ _ W7 (by omega) (by omega) (by omega), ?_⟩; go_big_quiet_on)))
      refine wpQuiet_nil ?_
      clear c0 c1 c2 cf f0 f1 f2 f3 f4 f5 f6 f7 f8 f9 f10 ff
      go_wp2_with fail
      refine (demand_err g _ _ c _ _ W7 HC.out).mono ?_
      rintro e v ⟨rfl, hv⟩
      rw [hv]
      clear hv
      obtain ⟨f0, f1, f2, f3, f4, f5, f6, f7, f8, f9, f10, ff⟩ := HF.out.cells
      obtain ⟨d0, d1, d2, d3, d4, d5, d6, d7, d8, d9, d10, df⟩ := HR.out.cells
      go_wp2_with fail
      exact bodyPost_ret (v := .agg #[.int .i64 y0, .int .i64 y1, .int .i64 y2, .int .i64 y3, .int .i64 y4, .int .i64 y5, .int .i64 y6, .int .i64 y7, .int .i64 y8, .slice ao lo co, .slice (some ⟨K, 0, none⟩) 0 0]) (by simp [results, Tryz.results40, go_sem, d0, d1, d2, d3, d4, d5, d6, d7, d8, d9, d10]) rfl ⟨_, y0, y1, y2, y3, y4, y5, y6, y7, y8, _, _, _, _, rfl, cur_11 HC.out HGR.out, only_new (only_11 HO.out (Nat.le_refl _)) (by intro x hx; simp at hx; omega)⟩
    | false =>
      have HC2 := hide (Cur.drew (w := W6) HC.out)
      have HF2 := hide (FR.drew (w := W6) HF.out)
      have HR2 := hide (FR.drew (w := W6) HR.out)
      have HO2 := hide (HO.out.trans (only_drew W6))
      refine region_tail 11 (by kernel_rfl) (by kernel_rfl) ?_
      clear HC HF HR HO
      generalize W6.drew = W7 at *
      have HC := HC2
      have HF := HF2
      have HR := HR2
      have HO := HO2
      clear HC2 HF2 HR2 HO2
      obtain ⟨f0, f1, f2, f3, f4, f5, f6, f7, f8, f9, f10, ff⟩ := HF.out.cells
      obtain ⟨c0, c1, c2, cf⟩ := HC.out.cells
      simp only [List.take_succ_cons, List.take_zero, List.drop_succ_cons, List.drop_zero]
      repeat (first | go_big_quiet_skip | (go_big_quiet_want; go_big_quiet_op; first | go_big_quiet_on | (apply Exists.intro; refine ⟨has_lit (w.heap.size + 1) y4 32768 false W7 f4 hh, ?_⟩; go_big_quiet_on) | (apply Exists.intro; refine ⟨hoffset_walk (w.heap.size + 1) y4 W7 f4, ?_⟩; go_big_quiet_on) | (apply Exists.intro; refine ⟨within_walk _ _ _ _ W7 (by omega) (by omega) (by omega), ?_⟩; go_big_quiet_on)))
      refine wpQuiet_nil ?_
      clear c0 c1 c2 cf f0 f1 f2 f3 f4 f5 f6 f7 f8 f9 f10 ff
      go_wp2_with fail
      refine (demand_err g _ _ c _ _ W7 HC.out).mono ?_
      rintro e v ⟨rfl, hv⟩
      rw [hv]
      clear hv
      obtain ⟨f0, f1, f2, f3, f4, f5, f6, f7, f8, f9, f10, ff⟩ := HF.out.cells
      obtain ⟨d0, d1, d2, d3, d4, d5, d6, d7, d8, d9, d10, df⟩ := HR.out.cells
      go_wp2_with fail
      exact bodyPost_ret (v := .agg #[.int .i64 y0, .int .i64 y1, .int .i64 y2, .int .i64 y3, .int .i64 y4, .int .i64 y5, .int .i64 y6, .int .i64 y7, .int .i64 y8, .slice ao lo co, .slice (some ⟨K, 0, none⟩) 0 0]) (by simp [results, Tryz.results40, go_sem, d0, d1, d2, d3, d4, d5, d6, d7, d8, d9, d10]) rfl ⟨_, y0, y1, y2, y3, y4, y5, y6, y7, y8, _, _, _, _, rfl, cur_11 HC.out HGR.out, only_new (only_11 HO.out (Nat.le_refl _)) (by intro x hx; simp at hx; omega)⟩

set_option maxHeartbeats 8000000 in
theorem takePacket_low (g n cap b off : Nat) (w : World) (hc : Cur w g (.slice (some ⟨b, off, none⟩) n cap) 0 .nilIface) (hm : n ≤ 1048576) (y0 y1 y2 y3 y4 y5 y6 y7 y8 : Int) (b0 : 0 ≤ y0) (b1 : y0 ≤ 255) (b2 : 0 ≤ y2) (b3 : y2 ≤ 65535) (b4 : 0 ≤ y4) (b5 : y4 ≤ 65535) (ko : Nat) (LO : List Int) (hkn : 20 + ko ≤ n) (h1 : decide (y0 % 16 * 4 ≤ y2) = false)
    (hT : ∀ W F, Cur W g (.slice (some ⟨b, off, none⟩) n cap) 0 .nilIface → FR W F 0 0 0 0 0 0 0 0 0 (.slice none 0 0) (.slice none 0 0) → F ≠ g → Below w.heap.size w W → w.heap.size ≤ F → W.heap.size = w.heap.size + 2 → Calls Tryz.prog 50 #[.pointer (some ⟨F, 0, none⟩), .pointer (some ⟨g, 0, none⟩)] W fun e w' => ∃ (ao : Option Addr) (co : Nat), e = .returned (.tuple #[]) ∧ Cur w' g (.slice (some ⟨b, off, none⟩) n cap) (20 + ko) .nilIface ∧ FR w' F y0 y1 y2 y3 y4 y5 y6 y7 y8 (.slice ao ko co) (.slice none 0 0) ∧ OwnB w' (w.heap.size + 2) (.slice ao ko co) LO ∧ Only [g, F] W w') :
    Calls Tryz.prog 40 #[.pointer (some ⟨g, 0, none⟩)] w fun e w' => ∃ (p : Nat) (y0 y1 y2 y3 y4 y5 y6 y7 y8 : Int) (ao : Option Addr) (lo co : Nat) (ap : Option Addr), e = .returned (.agg #[.int .i64 y0, .int .i64 y1, .int .i64 y2, .int .i64 y3, .int .i64 y4, .int .i64 y5, .int .i64 y6, .int .i64 y7, .int .i64 y8, .slice ao lo co, .slice ap 0 0]) ∧ Cur w' g (.slice (some ⟨b, off, none⟩) n cap) p (wErr 5) ∧ Only [g] w w' := by
  have hgl := hc.lt
  have HT := hide hT
  have HI := hide (tpW_facts w g 0 _ _ hc)
  have HNF : Hid (w.heap.size + 1 ∉ [g]) := hide (by simp; omega)
  have HNR : Hid (w.heap.size ∉ [g]) := hide (by simp; omega)
  have HGR : Hid (some g ≠ some w.heap.size) := hide (by intro e; cases e; omega)
  clear hc hT
  go_enter Tryz.func40, Tryz.ntmps40
  go_wp2_with fail
  generalize hW : tpW w = W at *
  unfold tpW at hW
  rw [hW]
  clear hW
  refine (HT.out W (w.heap.size + 1) HI.out.1 HI.out.2.2.1 (by omega) HI.out.2.2.2.1 (by omega) HI.out.2.2.2.2).mono ?_
  rintro e W1 ⟨ao, co, rfl, hc1, hf1, hw1, ho1⟩
  have HC := hide hc1
  have HF := hide hf1
  have HR := hide (HI.out.2.1.only ho1 (by simp; omega))
  have HO : Hid (Only [g, w.heap.size + 1] w W1) := hide ((Only.of_below HI.out.2.2.2.1).trans ho1)
  clear HT HI hc1 hf1 ho1 hw1
  go_wp2_with fail
  have HC2 := hide (Cur.drew (w := W1) HC.out)
  have HF2 := hide (FR.drew (w := W1) HF.out)
  have HR2 := hide (FR.drew (w := W1) HR.out)
  have HO2 := hide (HO.out.trans (only_drew W1))
  refine region_tail 18 (by kernel_rfl) (by kernel_rfl) ?_
  clear HC HF HR HO
  generalize W1.drew = W2 at *
  have HC := HC2
  have HF := HF2
  have HR := HR2
  have HO := HO2
  clear HC2 HF2 HR2 HO2
  obtain ⟨f0, f1, f2, f3, f4, f5, f6, f7, f8, f9, f10, ff⟩ := HF.out.cells
  obtain ⟨c0, c1, c2, cf⟩ := HC.out.cells
  simp only [List.take_succ_cons, List.take_zero, List.drop_succ_cons, List.drop_zero]
  repeat (first | go_big_quiet_skip | (go_big_quiet_want; go_big_quiet_op; first | go_big_quiet_on | (apply Exists.intro; refine ⟨hsize_walk (w.heap.size + 1) y0 W2 f0, ?_⟩; go_big_quiet_on)))
  refine wpQuiet_nil ?_
  clear c0 c1 c2 cf f0 f1 f2 f3 f4 f5 f6 f7 f8 f9 f10 ff
  go_wp2_with fail
  refine (demand_no g _ _ 5 W2 HC.out).mono ?_
  rintro e W3 ⟨rfl, hc2, hg2⟩
  have HF2 := hide (HF.out.only (Only.of_some hg2) HNF.out)
  have HR2 := hide (HR.out.only (Only.of_some hg2) HNR.out)
  have HO2 := hide (HO.out.trans (Only.mono (T := [g, (w.heap.size + 1)]) (Only.of_some hg2) (by simp)))
  have HC2 := hide (hc2)
  clear HC HF HR HO
  have HC := HC2
  have HF := HF2
  have HR := HR2
  have HO := HO2
  clear HC2 HF2 HR2 HO2
  clear hc2 hg2
  go_wp2_with fail
  have HC2 := hide (Cur.drew (w := W3) HC.out)
  have HF2 := hide (FR.drew (w := W3) HF.out)
  have HR2 := hide (FR.drew (w := W3) HR.out)
  have HO2 := hide (HO.out.trans (only_drew W3))
  refine region_tail 7 (by kernel_rfl) (by kernel_rfl) ?_
  clear HC HF HR HO
  generalize W3.drew = W5 at *
  have HC := HC2
  have HF := HF2
  have HR := HR2
  have HO := HO2
  clear HC2 HF2 HR2 HO2
  obtain ⟨f0, f1, f2, f3, f4, f5, f6, f7, f8, f9, f10, ff⟩ := HF.out.cells
  obtain ⟨c0, c1, c2, cf⟩ := HC.out.cells
  simp only [List.take_succ_cons, List.take_zero, List.drop_succ_cons, List.drop_zero]
  repeat (first | go_big_quiet_skip | (go_big_quiet_want; go_big_quiet_op; first | go_big_quiet_on | (apply Exists.intro; refine ⟨hsize_walk (w.heap.size + 1) y0 W5 f0, ?_⟩; go_big_quiet_on)))
  refine wpQuiet_nil ?_
  clear c0 c1 c2 cf f0 f1 f2 f3 f4 f5 f6 f7 f8 f9 f10 ff
  go_wp2_with fail
  refine (takeBytes_err g _ n cap (some ⟨b, off, none⟩) 5 _ W5 HC.out (by omega) (by omega) (by omega) (by omega)).mono ?_
  rintro e U ⟨rfl, hbU⟩
  have HF2 := hide (HF.out.only (Only.of_below (S := [g]) hbU) HNF.out)
  have HR2 := hide (HR.out.only (Only.of_below (S := [g]) hbU) HNR.out)
  have HO2 := hide (HO.out.trans (Only.mono (T := [g, (w.heap.size + 1)]) (Only.of_below (S := [g]) hbU) (by simp)))
  have HC2 := hide (HC.out.below hbU HC.out.lt)
  clear HC HF HR HO
  have HC := HC2
  have HF := HF2
  have HR := HR2
  have HO := HO2
  clear HC2 HF2 HR2 HO2
  clear hbU
  generalize W5.heap.size = K at *
  obtain ⟨f0, f1, f2, f3, f4, f5, f6, f7, f8, f9, f10, ff⟩ := HF.out.cells
  have HF2 := hide (HF.out.set10 (.slice (some ⟨K, 0, none⟩) 0 0))
  have HC2 := hide (HC.out.kept (grown_cell U (w.heap.size + 1) 10 (.slice (some ⟨K, 0, none⟩) 0 0)) (by intro e; cases e; omega))
  have HR2 := hide (HR.out.only (Only.of_some (grown_cell U (w.heap.size + 1) 10 (.slice (some ⟨K, 0, none⟩) 0 0))) (by simp))
  have HO2 := hide (HO.out.trans (only_cell (g := g) 10 (.slice (some ⟨K, 0, none⟩) 0 0)))
  clear HC HF HR HO
  go_wp2_with fail
  generalize hV : U.setCell ⟨w.heap.size + 1, 10, none⟩ (.slice (some ⟨K, 0, none⟩) 0 0) = W6 at *
  clear hV f0 f1 f2 f3 f4 f5 f6 f7 f8 f9 f10 ff
  have HC := HC2
  have HF := HF2
  have HR := HR2
  have HO := HO2
  clear HC2 HF2 HR2 HO2
  cases hh : (bits .and .i64 y4 32768 != 0) with
  | true =>
    have HC2 := hide (Cur.drew (w := W6) HC.out)
    have HF2 := hide (FR.drew (w := W6) HF.out)
    have HR2 := hide (FR.drew (w := W6) HR.out)
    have HO2 := hide (HO.out.trans (only_drew W6))
    refine region_tail 11 (by kernel_rfl) (by kernel_rfl) ?_
    clear HC HF HR HO
    generalize W6.drew = W7 at *
    have HC := HC2
    have HF := HF2
    have HR := HR2
    have HO := HO2
    clear HC2 HF2 HR2 HO2
    obtain ⟨f0, f1, f2, f3, f4, f5, f6, f7, f8, f9, f10, ff⟩ := HF.out.cells
    obtain ⟨c0, c1, c2, cf⟩ := HC.out.cells
    simp only [List.take_succ_cons, List.take_zero, List.drop_succ_cons, List.drop_zero]
    repeat (first | go_big_quiet_skip | (go_big_quiet_want; go_big_quiet_op; first | go_big_quiet_on | (apply Exists.intro; refine ⟨has_lit (w.heap.size + 1) y4 32768 true W7 f4 hh, ?_⟩; go_big_quiet_on) | (apply Exists.intro; refine ⟨hoffset_walk (w.heap.size + 1) y4 W7 f4, ?_⟩; go_big_quiet_on) | (apply Exists.intro; refine ⟨within_walk _ _ _ _ W7 (by omega) (by omega) (by omega), ?_⟩; go_big_quiet_on)))
    refine wpQuiet_nil ?_
    clear c0 c1 c2 cf f0 f1 f2 f3 f4 f5 f6 f7 f8 f9 f10 ff
    go_wp2_with fail
    refine (demand_err g _ _ 5 _ _ W7 HC.out).mono ?_
    rintro e v ⟨rfl, hv⟩
    rw [hv]
    clear hv
    obtain ⟨f0, f1, f2, f3, f4, f5, f6, f7, f8, f9, f10, ff⟩ := HF.out.cells
    obtain ⟨d0, d1, d2, d3, d4, d5, d6, d7, d8, d9, d10, df⟩ := HR.out.cells
    go_wp2_with fail
    exact bodyPost_ret (v := .agg #[.int .i64 y0, .int .i64 y1, .int .i64 y2, .int .i64 y3, .int .i64 y4, .int .i64 y5, .int .i64 y6, .int .i64 y7, .int .i64 y8, .slice ao ko co, .slice (some ⟨K, 0, none⟩) 0 0]) (by simp [results, Tryz.results40, go_sem, d0, d1, d2, d3, d4, d5, d6, d7, d8, d9, d10]) rfl ⟨_, y0, y1, y2, y3, y4, y5, y6, y7, y8, _, _, _, _, rfl, cur_11 HC.out HGR.out, only_new (only_11 HO.out (Nat.le_refl _)) (by intro x hx; simp at hx; omega)⟩
  | false =>
    have HC2 := hide (Cur.drew (w := W6) HC.out)
    have HF2 := hide (FR.drew (w := W6) HF.out)
    have HR2 := hide (FR.drew (w := W6) HR.out)
    have HO2 := hide (HO.out.trans (only_drew W6))
    refine region_tail 11 (by kernel_rfl) (by kernel_rfl) ?_
    clear HC HF HR HO
    generalize W6.drew = W7 at *
    have HC := HC2
    have HF := HF2
    have HR := HR2
    have HO := HO2
    clear HC2 HF2 HR2 HO2
    obtain ⟨f0, f1, f2, f3, f4, f5, f6, f7, f8, f9, f10, ff⟩ := HF.out.cells
    obtain ⟨c0, c1, c2, cf⟩ := HC.out.cells
    simp only [List.take_succ_cons, List.take_zero, List.drop_succ_cons, List.drop_zero]
    repeat (first | go_big_quiet_skip | (go_big_quiet_want; go_big_quiet_op; first | go_big_quiet_on | (apply Exists.intro; refine ⟨has_lit (w.heap.size + 1) y4 32768 false W7 f4 hh, ?_⟩; go_big_quiet_on) | (apply Exists.intro; refine ⟨hoffset_walk (w.heap.size + 1) y4 W7 f4, ?_⟩; go_big_quiet_on) | (apply Exists.intro; refine ⟨within_walk _ _ _ _ W7 (by omega) (by omega) (by omega), ?_⟩; go_big_quiet_on)))
    refine wpQuiet_nil ?_
    clear c0 c1 c2 cf f0 f1 f2 f3 f4 f5 f6 f7 f8 f9 f10 ff
    go_wp2_with fail
    refine (demand_err g _ _ 5 _ _ W7 HC.out).mono ?_
    rintro e v ⟨rfl, hv⟩
    rw [hv]
    clear hv
    obtain ⟨f0, f1, f2, f3, f4, f5, f6, f7, f8, f9, f10, ff⟩ := HF.out.cells
    obtain ⟨d0, d1, d2, d3, d4, d5, d6, d7, d8, d9, d10, df⟩ := HR.out.cells
    go_wp2_with fail
    exact bodyPost_ret (v := .agg #[.int .i64 y0, .int .i64 y1, .int .i64 y2, .int .i64 y3, .int .i64 y4, .int .i64 y5, .int .i64 y6, .int .i64 y7, .int .i64 y8, .slice ao ko co, .slice (some ⟨K, 0, none⟩) 0 0]) (by simp [results, Tryz.results40, go_sem, d0, d1, d2, d3, d4, d5, d6, d7, d8, d9, d10]) rfl ⟨_, y0, y1, y2, y3, y4, y5, y6, y7, y8, _, _, _, _, rfl, cur_11 HC.out HGR.out, only_new (only_11 HO.out (Nat.le_refl _)) (by intro x hx; simp at hx; omega)⟩

set_option maxHeartbeats 8000000 in
theorem takePacket_high (g n cap b off : Nat) (w : World) (hc : Cur w g (.slice (some ⟨b, off, none⟩) n cap) 0 .nilIface) (hm : n ≤ 1048576) (y0 y1 y2 y3 y4 y5 y6 y7 y8 : Int) (b0 : 0 ≤ y0) (b1 : y0 ≤ 255) (b2 : 0 ≤ y2) (b3 : y2 ≤ 65535) (b4 : 0 ≤ y4) (b5 : y4 ≤ 65535) (ko : Nat) (LO : List Int) (hkn : 20 + ko ≤ n) (h1 : y0 % 16 * 4 ≤ y2) (h2 : decide (y2 ≤ (n : Int)) = false)
    (hT : ∀ W F, Cur W g (.slice (some ⟨b, off, none⟩) n cap) 0 .nilIface → FR W F 0 0 0 0 0 0 0 0 0 (.slice none 0 0) (.slice none 0 0) → F ≠ g → Below w.heap.size w W → w.heap.size ≤ F → W.heap.size = w.heap.size + 2 → Calls Tryz.prog 50 #[.pointer (some ⟨F, 0, none⟩), .pointer (some ⟨g, 0, none⟩)] W fun e w' => ∃ (ao : Option Addr) (co : Nat), e = .returned (.tuple #[]) ∧ Cur w' g (.slice (some ⟨b, off, none⟩) n cap) (20 + ko) .nilIface ∧ FR w' F y0 y1 y2 y3 y4 y5 y6 y7 y8 (.slice ao ko co) (.slice none 0 0) ∧ OwnB w' (w.heap.size + 2) (.slice ao ko co) LO ∧ Only [g, F] W w') :
    Calls Tryz.prog 40 #[.pointer (some ⟨g, 0, none⟩)] w fun e w' => ∃ (p : Nat) (y0 y1 y2 y3 y4 y5 y6 y7 y8 : Int) (ao : Option Addr) (lo co : Nat) (ap : Option Addr), e = .returned (.agg #[.int .i64 y0, .int .i64 y1, .int .i64 y2, .int .i64 y3, .int .i64 y4, .int .i64 y5, .int .i64 y6, .int .i64 y7, .int .i64 y8, .slice ao lo co, .slice ap 0 0]) ∧ Cur w' g (.slice (some ⟨b, off, none⟩) n cap) p (wErr 5) ∧ Only [g] w w' := by
  have hgl := hc.lt
  have HT := hide hT
  have HI := hide (tpW_facts w g 0 _ _ hc)
  have HNF : Hid (w.heap.size + 1 ∉ [g]) := hide (by simp; omega)
  have HNR : Hid (w.heap.size ∉ [g]) := hide (by simp; omega)
  have HGR : Hid (some g ≠ some w.heap.size) := hide (by intro e; cases e; omega)
  clear hc hT
  go_enter Tryz.func40, Tryz.ntmps40
  go_wp2_with fail
  generalize hW : tpW w = W at *
  unfold tpW at hW
  rw [hW]
  clear hW
  refine (HT.out W (w.heap.size + 1) HI.out.1 HI.out.2.2.1 (by omega) HI.out.2.2.2.1 (by omega) HI.out.2.2.2.2).mono ?_
  rintro e W1 ⟨ao, co, rfl, hc1, hf1, hw1, ho1⟩
  have HC := hide hc1
  have HF := hide hf1
  have HR := hide (HI.out.2.1.only ho1 (by simp; omega))
  have HO : Hid (Only [g, w.heap.size + 1] w W1) := hide ((Only.of_below HI.out.2.2.2.1).trans ho1)
  clear HT HI hc1 hf1 ho1 hw1
  go_wp2_with fail
  have HC2 := hide (Cur.drew (w := W1) HC.out)
  have HF2 := hide (FR.drew (w := W1) HF.out)
  have HR2 := hide (FR.drew (w := W1) HR.out)
  have HO2 := hide (HO.out.trans (only_drew W1))
  refine region_tail 18 (by kernel_rfl) (by kernel_rfl) ?_
  clear HC HF HR HO
  generalize W1.drew = W2 at *
  have HC := HC2
  have HF := HF2
  have HR := HR2
  have HO := HO2
  clear HC2 HF2 HR2 HO2
  obtain ⟨f0, f1, f2, f3, f4, f5, f6, f7, f8, f9, f10, ff⟩ := HF.out.cells
  obtain ⟨c0, c1, c2, cf⟩ := HC.out.cells
  simp only [List.take_succ_cons, List.take_zero, List.drop_succ_cons, List.drop_zero]
  repeat (first | go_big_quiet_skip | (go_big_quiet_want; go_big_quiet_op; first | go_big_quiet_on | (apply Exists.intro; refine ⟨hsize_walk (w.heap.size + 1) y0 W2 f0, ?_⟩; go_big_quiet_on)))
  refine wpQuiet_nil ?_
  clear c0 c1 c2 cf f0 f1 f2 f3 f4 f5 f6 f7 f8 f9 f10 ff
  go_wp2_with fail
  refine (demand_no g _ _ 5 W2 HC.out).mono ?_
  rintro e W3 ⟨rfl, hc2, hg2⟩
  have HF2 := hide (HF.out.only (Only.of_some hg2) HNF.out)
  have HR2 := hide (HR.out.only (Only.of_some hg2) HNR.out)
  have HO2 := hide (HO.out.trans (Only.mono (T := [g, (w.heap.size + 1)]) (Only.of_some hg2) (by simp)))
  have HC2 := hide (hc2)
  clear HC HF HR HO
  have HC := HC2
  have HF := HF2
  have HR := HR2
  have HO := HO2
  clear HC2 HF2 HR2 HO2
  clear hc2 hg2
  go_wp2_with fail
  have HC2 := hide (Cur.drew (w := W3) HC.out)
  have HF2 := hide (FR.drew (w := W3) HF.out)
  have HR2 := hide (FR.drew (w := W3) HR.out)
  have HO2 := hide (HO.out.trans (only_drew W3))
  refine region_tail 7 (by kernel_rfl) (by kernel_rfl) ?_
  clear HC HF HR HO
  generalize W3.drew = W5 at *
  have HC := HC2
  have HF := HF2
  have HR := HR2
  have HO := HO2
  clear HC2 HF2 HR2 HO2
  obtain ⟨f0, f1, f2, f3, f4, f5, f6, f7, f8, f9, f10, ff⟩ := HF.out.cells
  obtain ⟨c0, c1, c2, cf⟩ := HC.out.cells
  simp only [List.take_succ_cons, List.take_zero, List.drop_succ_cons, List.drop_zero]
  repeat (first | go_big_quiet_skip | (go_big_quiet_want; go_big_quiet_op; first | go_big_quiet_on | (apply Exists.intro; refine ⟨hsize_walk (w.heap.size + 1) y0 W5 f0, ?_⟩; go_big_quiet_on)))
  refine wpQuiet_nil ?_
  clear c0 c1 c2 cf f0 f1 f2 f3 f4 f5 f6 f7 f8 f9 f10 ff
  go_wp2_with fail
  refine (takeBytes_err g _ n cap (some ⟨b, off, none⟩) 5 _ W5 HC.out (by omega) (by omega) (by omega) (by omega)).mono ?_
  rintro e U ⟨rfl, hbU⟩
  have HF2 := hide (HF.out.only (Only.of_below (S := [g]) hbU) HNF.out)
  have HR2 := hide (HR.out.only (Only.of_below (S := [g]) hbU) HNR.out)
  have HO2 := hide (HO.out.trans (Only.mono (T := [g, (w.heap.size + 1)]) (Only.of_below (S := [g]) hbU) (by simp)))
  have HC2 := hide (HC.out.below hbU HC.out.lt)
  clear HC HF HR HO
  have HC := HC2
  have HF := HF2
  have HR := HR2
  have HO := HO2
  clear HC2 HF2 HR2 HO2
  clear hbU
  generalize W5.heap.size = K at *
  obtain ⟨f0, f1, f2, f3, f4, f5, f6, f7, f8, f9, f10, ff⟩ := HF.out.cells
  have HF2 := hide (HF.out.set10 (.slice (some ⟨K, 0, none⟩) 0 0))
  have HC2 := hide (HC.out.kept (grown_cell U (w.heap.size + 1) 10 (.slice (some ⟨K, 0, none⟩) 0 0)) (by intro e; cases e; omega))
  have HR2 := hide (HR.out.only (Only.of_some (grown_cell U (w.heap.size + 1) 10 (.slice (some ⟨K, 0, none⟩) 0 0))) (by simp))
  have HO2 := hide (HO.out.trans (only_cell (g := g) 10 (.slice (some ⟨K, 0, none⟩) 0 0)))
  clear HC HF HR HO
  go_wp2_with fail
  generalize hV : U.setCell ⟨w.heap.size + 1, 10, none⟩ (.slice (some ⟨K, 0, none⟩) 0 0) = W6 at *
  clear hV f0 f1 f2 f3 f4 f5 f6 f7 f8 f9 f10 ff
  have HC := HC2
  have HF := HF2
  have HR := HR2
  have HO := HO2
  clear HC2 HF2 HR2 HO2
  cases hh : (bits .and .i64 y4 32768 != 0) with
  | true =>
    have HC2 := hide (Cur.drew (w := W6) HC.out)
    have HF2 := hide (FR.drew (w := W6) HF.out)
    have HR2 := hide (FR.drew (w := W6) HR.out)
    have HO2 := hide (HO.out.trans (only_drew W6))
    refine region_tail 11 (by kernel_rfl) (by kernel_rfl) ?_
    clear HC HF HR HO
    generalize W6.drew = W7 at *
    have HC := HC2
    have HF := HF2
    have HR := HR2
    have HO := HO2
    clear HC2 HF2 HR2 HO2
    obtain ⟨f0, f1, f2, f3, f4, f5, f6, f7, f8, f9, f10, ff⟩ := HF.out.cells
    obtain ⟨c0, c1, c2, cf⟩ := HC.out.cells
    simp only [List.take_succ_cons, List.take_zero, List.drop_succ_cons, List.drop_zero]
    repeat (first | go_big_quiet_skip | (go_big_quiet_want; go_big_quiet_op; first | go_big_quiet_on | (apply Exists.intro; refine ⟨has_lit (w.heap.size + 1) y4 32768 true W7 f4 hh, ?_⟩; go_big_quiet_on) | (apply Exists.intro; refine ⟨hoffset_walk (w.heap.size + 1) y4 W7 f4, ?_⟩; go_big_quiet_on) | (apply Exists.intro; refine ⟨within_walk _ _ _ _ W7 (by omega) (by omega) (by omega), ?_⟩; go_big_quiet_on)))
    refine wpQuiet_nil ?_
    clear c0 c1 c2 cf f0 f1 f2 f3 f4 f5 f6 f7 f8 f9 f10 ff
    go_wp2_with fail
    refine (demand_err g _ _ 5 _ _ W7 HC.out).mono ?_
    rintro e v ⟨rfl, hv⟩
    rw [hv]
    clear hv
    obtain ⟨f0, f1, f2, f3, f4, f5, f6, f7, f8, f9, f10, ff⟩ := HF.out.cells
    obtain ⟨d0, d1, d2, d3, d4, d5, d6, d7, d8, d9, d10, df⟩ := HR.out.cells
    go_wp2_with fail
    exact bodyPost_ret (v := .agg #[.int .i64 y0, .int .i64 y1, .int .i64 y2, .int .i64 y3, .int .i64 y4, .int .i64 y5, .int .i64 y6, .int .i64 y7, .int .i64 y8, .slice ao ko co, .slice (some ⟨K, 0, none⟩) 0 0]) (by simp [results, Tryz.results40, go_sem, d0, d1, d2, d3, d4, d5, d6, d7, d8, d9, d10]) rfl ⟨_, y0, y1, y2, y3, y4, y5, y6, y7, y8, _, _, _, _, rfl, cur_11 HC.out HGR.out, only_new (only_11 HO.out (Nat.le_refl _)) (by intro x hx; simp at hx; omega)⟩
  | false =>
    have HC2 := hide (Cur.drew (w := W6) HC.out)
    have HF2 := hide (FR.drew (w := W6) HF.out)
    have HR2 := hide (FR.drew (w := W6) HR.out)
    have HO2 := hide (HO.out.trans (only_drew W6))
    refine region_tail 11 (by kernel_rfl) (by kernel_rfl) ?_
    clear HC HF HR HO
    generalize W6.drew = W7 at *
    have HC := HC2
    have HF := HF2
    have HR := HR2
    have HO := HO2
    clear HC2 HF2 HR2 HO2
    obtain ⟨f0, f1, f2, f3, f4, f5, f6, f7, f8, f9, f10, ff⟩ := HF.out.cells
    obtain ⟨c0, c1, c2, cf⟩ := HC.out.cells
    simp only [List.take_succ_cons, List.take_zero, List.drop_succ_cons, List.drop_zero]
    repeat (first | go_big_quiet_skip | (go_big_quiet_want; go_big_quiet_op; first | go_big_quiet_on | (apply Exists.intro; refine ⟨has_lit (w.heap.size + 1) y4 32768 false W7 f4 hh, ?_⟩; go_big_quiet_on) | (apply Exists.intro; refine ⟨hoffset_walk (w.heap.size + 1) y4 W7 f4, ?_⟩; go_big_quiet_on) | (apply Exists.intro; refine ⟨within_walk _ _ _ _ W7 (by omega) (by omega) (by omega), ?_⟩; go_big_quiet_on)))
    refine wpQuiet_nil ?_
    clear c0 c1 c2 cf f0 f1 f2 f3 f4 f5 f6 f7 f8 f9 f10 ff
    go_wp2_with fail
    refine (demand_err g _ _ 5 _ _ W7 HC.out).mono ?_
    rintro e v ⟨rfl, hv⟩
    rw [hv]
    clear hv
    obtain ⟨f0, f1, f2, f3, f4, f5, f6, f7, f8, f9, f10, ff⟩ := HF.out.cells
    obtain ⟨d0, d1, d2, d3, d4, d5, d6, d7, d8, d9, d10, df⟩ := HR.out.cells
    go_wp2_with fail
    exact bodyPost_ret (v := .agg #[.int .i64 y0, .int .i64 y1, .int .i64 y2, .int .i64 y3, .int .i64 y4, .int .i64 y5, .int .i64 y6, .int .i64 y7, .int .i64 y8, .slice ao ko co, .slice (some ⟨K, 0, none⟩) 0 0]) (by simp [results, Tryz.results40, go_sem, d0, d1, d2, d3, d4, d5, d6, d7, d8, d9, d10]) rfl ⟨_, y0, y1, y2, y3, y4, y5, y6, y7, y8, _, _, _, _, rfl, cur_11 HC.out HGR.out, only_new (only_11 HO.out (Nat.le_refl _)) (by intro x hx; simp at hx; omega)⟩

set_option maxHeartbeats 8000000 in
theorem takePacket_long (g n cap b off : Nat) (zs : List Int) (w : World) (hc : Cur w g (.slice (some ⟨b, off, none⟩) n cap) 0 .nilIface) (hm : n ≤ 1048576) (y0 y1 y2 y3 y4 y5 y6 y7 y8 : Int) (b0 : 0 ≤ y0) (b1 : y0 ≤ 255) (b2 : 0 ≤ y2) (b3 : y2 ≤ 65535) (b4 : 0 ≤ y4) (b5 : y4 ≤ 65535) (ko : Nat) (LO : List Int) (hkn : 20 + ko ≤ n) (hn : zs.length = n) (ha : Arr w (some ⟨b, off, none⟩) zs) (hcap : n ≤ cap) (hbg : b ≠ g) (h1 : y0 % 16 * 4 ≤ y2) (h2 : y2 ≤ (n : Int)) (hk0 : y0 % 16 * 4 = 20 + (ko : Int)) (kp : Nat) (hkp : y2 - y0 % 16 * 4 = (kp : Int)) (T : Bool) (hT3 : ((!(bits .and .i64 y4 32768 != 0)) && decide (y4 % 8192 * 8 + (kp : Int) ≤ 65535)) = T) (ev : Value) (hev : (if T then Value.nilIface else wErr 1) = ev)
    (hT : ∀ W F, Cur W g (.slice (some ⟨b, off, none⟩) n cap) 0 .nilIface → FR W F 0 0 0 0 0 0 0 0 0 (.slice none 0 0) (.slice none 0 0) → F ≠ g → Below w.heap.size w W → w.heap.size ≤ F → W.heap.size = w.heap.size + 2 → Calls Tryz.prog 50 #[.pointer (some ⟨F, 0, none⟩), .pointer (some ⟨g, 0, none⟩)] W fun e w' => ∃ (ao : Option Addr) (co : Nat), e = .returned (.tuple #[]) ∧ Cur w' g (.slice (some ⟨b, off, none⟩) n cap) (20 + ko) .nilIface ∧ FR w' F y0 y1 y2 y3 y4 y5 y6 y7 y8 (.slice ao ko co) (.slice none 0 0) ∧ OwnB w' (w.heap.size + 2) (.slice ao ko co) LO ∧ Only [g, F] W w') :
    Calls Tryz.prog 40 #[.pointer (some ⟨g, 0, none⟩)] w fun e w' => ∃ (p : Nat) (ao ap : Option Addr) (co cp : Nat), e = .returned (.agg #[.int .i64 y0, .int .i64 y1, .int .i64 y2, .int .i64 y3, .int .i64 y4, .int .i64 y5, .int .i64 y6, .int .i64 y7, .int .i64 y8, .slice ao ko co, .slice ap kp cp]) ∧ Cur w' g (.slice (some ⟨b, off, none⟩) n cap) p ev ∧ OwnB w' (w.heap.size + 2) (.slice ao ko co) LO ∧ OwnB w' (w.heap.size + 2) (.slice ap kp cp) ((zs.drop (20 + ko)).take kp) ∧ (∀ k, (Value.slice ao ko co).ownBlock = some k → (Value.slice ap kp cp).ownBlock ≠ some k) ∧ Only [g] w w' := by
  have HA := hide ha
  have HN := hide hn
  have HKP := hide hkp
  have HT3 := hide hT3
  have HEV := hide hev
  have HKN : Hid (20 + ko + kp ≤ n) := hide (by omega)
  have hblt : b < w.heap.size := by
    obtain ⟨b', o', e, hlt, _⟩ := ha.2 0 (by omega)
    cases e
    exact hlt
  have HAN : Hid (∀ j, j < zs.length → ∃ b' off', (some ⟨b, off, none⟩ : Option Addr) = some ⟨b', off', none⟩ ∧ b' ∉ [g, w.heap.size + 1]) := hide (fun j hj => ⟨b, off, rfl, by simp; omega⟩)
  clear ha hn hkp hT3 hev hk0
  have hgl := hc.lt
  have HT := hide hT
  have HI := hide (tpW_facts w g 0 _ _ hc)
  have HNF : Hid (w.heap.size + 1 ∉ [g]) := hide (by simp; omega)
  have HNR : Hid (w.heap.size ∉ [g]) := hide (by simp; omega)
  have HGR : Hid (some g ≠ some w.heap.size) := hide (by intro e; cases e; omega)
  clear hc hT
  go_enter Tryz.func40, Tryz.ntmps40
  go_wp2_with fail
  generalize hW : tpW w = W at *
  unfold tpW at hW
  rw [hW]
  clear hW
  refine (HT.out W (w.heap.size + 1) HI.out.1 HI.out.2.2.1 (by omega) HI.out.2.2.2.1 (by omega) HI.out.2.2.2.2).mono ?_
  rintro e W1 ⟨ao, co, rfl, hc1, hf1, hw1, ho1⟩
  have HC := hide hc1
  have HF := hide hf1
  have HR := hide (HI.out.2.1.only ho1 (by simp; omega))
  have HO : Hid (Only [g, w.heap.size + 1] w W1) := hide ((Only.of_below HI.out.2.2.2.1).trans ho1)
  have HOW := hide hw1
  clear HT HI hc1 hf1 ho1 hw1
  go_wp2_with fail
  have HC2 := hide (Cur.drew (w := W1) HC.out)
  have HF2 := hide (FR.drew (w := W1) HF.out)
  have HR2 := hide (FR.drew (w := W1) HR.out)
  have HO2 := hide (HO.out.trans (only_drew W1))
  have HOW2 := hide (OwnB.drew (w := W1) HOW.out)
  refine region_tail 18 (by kernel_rfl) (by kernel_rfl) ?_
  clear HC HF HR HO HOW
  generalize W1.drew = W2 at *
  have HC := HC2
  have HF := HF2
  have HR := HR2
  have HO := HO2
  have HOW := HOW2
  clear HC2 HF2 HR2 HO2 HOW2
  obtain ⟨f0, f1, f2, f3, f4, f5, f6, f7, f8, f9, f10, ff⟩ := HF.out.cells
  obtain ⟨c0, c1, c2, cf⟩ := HC.out.cells
  simp only [List.take_succ_cons, List.take_zero, List.drop_succ_cons, List.drop_zero]
  repeat (first | go_big_quiet_skip | (go_big_quiet_want; go_big_quiet_op; first | go_big_quiet_on | (apply Exists.intro; refine ⟨hsize_walk (w.heap.size + 1) y0 W2 f0, ?_⟩; go_big_quiet_on)))
  refine wpQuiet_nil ?_
  clear c0 c1 c2 cf f0 f1 f2 f3 f4 f5 f6 f7 f8 f9 f10 ff
  go_wp2_with fail
  refine (demand_yes g _ _ 5 W2 HC.out).mono ?_
  rintro e v ⟨rfl, hv⟩
  rw [hv]
  clear hv
  have hkp := HKP.out
  go_wp2_with fail
  have HC2 := hide (Cur.drew (w := W2) HC.out)
  have HF2 := hide (FR.drew (w := W2) HF.out)
  have HR2 := hide (FR.drew (w := W2) HR.out)
  have HO2 := hide (HO.out.trans (only_drew W2))
  have HOW2 := hide (OwnB.drew (w := W2) HOW.out)
  refine region_tail 7 (by kernel_rfl) (by kernel_rfl) ?_
  clear HC HF HR HO HOW
  generalize W2.drew = W5 at *
  have HC := HC2
  have HF := HF2
  have HR := HR2
  have HO := HO2
  have HOW := HOW2
  clear HC2 HF2 HR2 HO2 HOW2
  obtain ⟨f0, f1, f2, f3, f4, f5, f6, f7, f8, f9, f10, ff⟩ := HF.out.cells
  obtain ⟨c0, c1, c2, cf⟩ := HC.out.cells
  simp only [List.take_succ_cons, List.take_zero, List.drop_succ_cons, List.drop_zero]
  repeat (first | go_big_quiet_skip | (go_big_quiet_want; go_big_quiet_op; first | go_big_quiet_on | (apply Exists.intro; refine ⟨hsize_walk (w.heap.size + 1) y0 W5 f0, ?_⟩; go_big_quiet_on)))
  refine wpQuiet_nil ?_
  clear c0 c1 c2 cf f0 f1 f2 f3 f4 f5 f6 f7 f8 f9 f10 ff
  go_wp2_with fail
  clear hkp
  refine (takeBytes_any g (20 + ko) n cap b off kp zs W5 HC.out (by omega) HKN.out hcap HN.out (arr_only HA.out HO.out HAN.out) hbg).mono ?_
  rintro e U ⟨vv, rfl, hO, hc2, hg2⟩
  have HAP := hide (apart_of HOW.out hO (Nat.le_refl _))
  have hz5 : w.heap.size + 2 ≤ W5.heap.size := by have := HF.out.lt; omega
  have HPW := hide (hO.mono hz5)
  have HOW2 := hide (HOW.out.only (Only.of_some hg2) (fun k hk => by have := HOW.out.ge k hk; simp; omega))
  clear hO HOW
  have HOW := HOW2
  clear HOW2
  obtain ⟨ap, cp, rfl, _⟩ := own_slice HPW.out
  have HLP : Hid (((zs.drop (20 + ko)).take kp).length = kp) := hide (by rw [List.length_take, List.length_drop, HN.out]; have := HKN.out; omega)
  rw [HLP.out] at HPW HAP ⊢
  have HF2 := hide (HF.out.only (Only.of_some hg2) HNF.out)
  have HR2 := hide (HR.out.only (Only.of_some hg2) HNR.out)
  have HO2 := hide (HO.out.trans (Only.mono (T := [g, (w.heap.size + 1)]) (Only.of_some hg2) (by simp)))
  have HC2 := hide (hc2)
  clear HC HF HR HO
  have HC := HC2
  have HF := HF2
  have HR := HR2
  have HO := HO2
  clear HC2 HF2 HR2 HO2
  clear hc2 hg2 hz5
  obtain ⟨f0, f1, f2, f3, f4, f5, f6, f7, f8, f9, f10, ff⟩ := HF.out.cells
  have HF2 := hide (HF.out.set10 (.slice ap kp cp))
  have HC2 := hide (HC.out.kept (grown_cell U (w.heap.size + 1) 10 (.slice ap kp cp)) (by intro e; cases e; omega))
  have HR2 := hide (HR.out.only (Only.of_some (grown_cell U (w.heap.size + 1) 10 (.slice ap kp cp))) (by simp))
  have HO2 := hide (HO.out.trans (only_cell (g := g) 10 (.slice ap kp cp)))
  have HOW2 := hide (OwnB.setBelow HOW.out (a := ⟨w.heap.size + 1, 10, none⟩) (by show w.heap.size + 1 < w.heap.size + 2; omega) (.slice ap kp cp))
  have HPW2 := hide (OwnB.setBelow HPW.out (a := ⟨w.heap.size + 1, 10, none⟩) (by show w.heap.size + 1 < w.heap.size + 2; omega) (.slice ap kp cp))
  clear HC HF HR HO HOW HPW
  go_wp2_with fail
  generalize hV : U.setCell ⟨w.heap.size + 1, 10, none⟩ (.slice ap kp cp) = W6 at *
  clear hV f0 f1 f2 f3 f4 f5 f6 f7 f8 f9 f10 ff
  have HC := HC2
  have HF := HF2
  have HR := HR2
  have HO := HO2
  have HOW := HOW2
  have HPW := HPW2
  clear HC2 HF2 HR2 HO2 HOW2 HPW2
  cases hh : (bits .and .i64 y4 32768 != 0) with
  | true =>
    have HT4 : Hid (false = T) := hide (by have h := HT3.out; rw [hh] at h; simpa using h)
    have HC2 := hide (Cur.drew (w := W6) HC.out)
    have HF2 := hide (FR.drew (w := W6) HF.out)
    have HR2 := hide (FR.drew (w := W6) HR.out)
    have HO2 := hide (HO.out.trans (only_drew W6))
    have HOW2 := hide (OwnB.drew (w := W6) HOW.out)
    have HPW2 := hide (OwnB.drew (w := W6) HPW.out)
    refine region_tail 11 (by kernel_rfl) (by kernel_rfl) ?_
    clear HC HF HR HO HOW HPW
    generalize W6.drew = W7 at *
    have HC := HC2
    have HF := HF2
    have HR := HR2
    have HO := HO2
    have HOW := HOW2
    have HPW := HPW2
    clear HC2 HF2 HR2 HO2 HOW2 HPW2
    obtain ⟨f0, f1, f2, f3, f4, f5, f6, f7, f8, f9, f10, ff⟩ := HF.out.cells
    obtain ⟨c0, c1, c2, cf⟩ := HC.out.cells
    simp only [List.take_succ_cons, List.take_zero, List.drop_succ_cons, List.drop_zero]
    repeat (first | go_big_quiet_skip | (go_big_quiet_want; go_big_quiet_op; first | go_big_quiet_on | (apply Exists.intro; refine ⟨has_lit (w.heap.size + 1) y4 32768 true W7 f4 hh, ?_⟩; go_big_quiet_on) | (apply Exists.intro; refine ⟨hoffset_walk (w.heap.size + 1) y4 W7 f4, ?_⟩; go_big_quiet_on) | (apply Exists.intro; refine ⟨within_walk _ _ _ _ W7 (by have := HKN.out; omega) (by omega) (by omega), ?_⟩; go_big_quiet_on)))
    refine wpQuiet_nil ?_
    clear c0 c1 c2 cf f0 f1 f2 f3 f4 f5 f6 f7 f8 f9 f10 ff
    go_wp2_with fail
    have cd := demand_if g _ _ 1 T W7 HC.out
    rw [HEV.out, ← HT4.out] at cd
    have CD := hide cd
    clear cd
    refine CD.out.mono ?_
    rintro e W8 ⟨rfl, hc2, hg2⟩
    have HOW2 := hide (HOW.out.only (Only.of_some hg2) (fun k hk => by have := HOW.out.ge k hk; simp; omega))
    have HPW2 := hide (HPW.out.only (Only.of_some hg2) (fun k hk => by have := HPW.out.ge k hk; simp; omega))
    have HF2 := hide (HF.out.only (Only.of_some hg2) HNF.out)
    have HR2 := hide (HR.out.only (Only.of_some hg2) HNR.out)
    have HO2 := hide (HO.out.trans (Only.mono (T := [g, (w.heap.size + 1)]) (Only.of_some hg2) (by simp)))
    have HC2 := hide (hc2)
    clear HC HF HR HO
    have HC := HC2
    have HF := HF2
    have HR := HR2
    have HO := HO2
    clear HC2 HF2 HR2 HO2
    clear hc2 hg2 HOW HPW CD
    obtain ⟨f0, f1, f2, f3, f4, f5, f6, f7, f8, f9, f10, ff⟩ := HF.out.cells
    obtain ⟨d0, d1, d2, d3, d4, d5, d6, d7, d8, d9, d10, df⟩ := HR.out.cells
    go_wp2_with fail
    exact bodyPost_ret (v := .agg #[.int .i64 y0, .int .i64 y1, .int .i64 y2, .int .i64 y3, .int .i64 y4, .int .i64 y5, .int .i64 y6, .int .i64 y7, .int .i64 y8, .slice ao ko co, .slice ap kp cp]) (by simp [results, Tryz.results40, go_sem, d0, d1, d2, d3, d4, d5, d6, d7, d8, d9, d10]) rfl ⟨_, ao, ap, co, cp, rfl, cur_11 HC.out HGR.out, ownb_11 HOW2.out (by omega), ownb_11 HPW2.out (by omega), HAP.out, only_new (only_11 HO.out (Nat.le_refl _)) (by intro x hx; simp at hx; omega)⟩
  | false =>
    have HT4 : Hid (decide (y4 % 8192 * 8 + (kp : Int) ≤ 65535) = T) := hide (by have h := HT3.out; rw [hh] at h; simpa using h)
    have HC2 := hide (Cur.drew (w := W6) HC.out)
    have HF2 := hide (FR.drew (w := W6) HF.out)
    have HR2 := hide (FR.drew (w := W6) HR.out)
    have HO2 := hide (HO.out.trans (only_drew W6))
    have HOW2 := hide (OwnB.drew (w := W6) HOW.out)
    have HPW2 := hide (OwnB.drew (w := W6) HPW.out)
    refine region_tail 11 (by kernel_rfl) (by kernel_rfl) ?_
    clear HC HF HR HO HOW HPW
    generalize W6.drew = W7 at *
    have HC := HC2
    have HF := HF2
    have HR := HR2
    have HO := HO2
    have HOW := HOW2
    have HPW := HPW2
    clear HC2 HF2 HR2 HO2 HOW2 HPW2
    obtain ⟨f0, f1, f2, f3, f4, f5, f6, f7, f8, f9, f10, ff⟩ := HF.out.cells
    obtain ⟨c0, c1, c2, cf⟩ := HC.out.cells
    simp only [List.take_succ_cons, List.take_zero, List.drop_succ_cons, List.drop_zero]
    repeat (first | go_big_quiet_skip | (go_big_quiet_want; go_big_quiet_op; first | go_big_quiet_on | (apply Exists.intro; refine ⟨has_lit (w.heap.size + 1) y4 32768 false W7 f4 hh, ?_⟩; go_big_quiet_on) | (apply Exists.intro; refine ⟨hoffset_walk (w.heap.size + 1) y4 W7 f4, ?_⟩; go_big_quiet_on) | (apply Exists.intro; refine ⟨within_walk _ _ _ _ W7 (by have := HKN.out; omega) (by omega) (by omega), ?_⟩; go_big_quiet_on)))
    refine wpQuiet_nil ?_
    clear c0 c1 c2 cf f0 f1 f2 f3 f4 f5 f6 f7 f8 f9 f10 ff
    go_wp2_with fail
    have cd := demand_if g _ _ 1 T W7 HC.out
    rw [HEV.out, ← HT4.out] at cd
    have CD := hide cd
    clear cd
    refine CD.out.mono ?_
    rintro e W8 ⟨rfl, hc2, hg2⟩
    have HOW2 := hide (HOW.out.only (Only.of_some hg2) (fun k hk => by have := HOW.out.ge k hk; simp; omega))
    have HPW2 := hide (HPW.out.only (Only.of_some hg2) (fun k hk => by have := HPW.out.ge k hk; simp; omega))
    have HF2 := hide (HF.out.only (Only.of_some hg2) HNF.out)
    have HR2 := hide (HR.out.only (Only.of_some hg2) HNR.out)
    have HO2 := hide (HO.out.trans (Only.mono (T := [g, (w.heap.size + 1)]) (Only.of_some hg2) (by simp)))
    have HC2 := hide (hc2)
    clear HC HF HR HO
    have HC := HC2
    have HF := HF2
    have HR := HR2
    have HO := HO2
    clear HC2 HF2 HR2 HO2
    clear hc2 hg2 HOW HPW CD
    obtain ⟨f0, f1, f2, f3, f4, f5, f6, f7, f8, f9, f10, ff⟩ := HF.out.cells
    obtain ⟨d0, d1, d2, d3, d4, d5, d6, d7, d8, d9, d10, df⟩ := HR.out.cells
    go_wp2_with fail
    exact bodyPost_ret (v := .agg #[.int .i64 y0, .int .i64 y1, .int .i64 y2, .int .i64 y3, .int .i64 y4, .int .i64 y5, .int .i64 y6, .int .i64 y7, .int .i64 y8, .slice ao ko co, .slice ap kp cp]) (by simp [results, Tryz.results40, go_sem, d0, d1, d2, d3, d4, d5, d6, d7, d8, d9, d10]) rfl ⟨_, ao, ap, co, cp, rfl, cur_11 HC.out HGR.out, ownb_11 HOW2.out (by omega), ownb_11 HPW2.out (by omega), HAP.out, only_new (only_11 HO.out (Nat.le_refl _)) (by intro x hx; simp at hx; omega)⟩
end Go.Proofs.YthbkhfiadkookaaGreatDoor
