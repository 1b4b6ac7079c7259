/-
Contracts of functions of this seat.
-/
import Derived.Test.YtakoagfeiolkjaaDoorRows
import Derived.WalkKit
import Derived.ProofKit
import Derived.OpenShut
import Derived.Test.YtakoagfeiolkjaaDoorIp0
namespace Go.Proofs.YtakoagfeiolkjaaDoor
open Go.ChangeShapes Go.WideShapes Go.ChangeAt Go.RowKit
set_option linter.unusedVariables false
set_option maxRecDepth 100000
set_option maxHeartbeats 8000000 in
theorem takePacket_err (g n cap : Nat) (a : Option Addr) (c : Int) (w : World) (hc : Cur w g (.slice a n cap) 0 .nilIface) (hm : n ≤ 1048576)
    (hT : ∀ W F, Cur W g (.slice a n cap) 0 .nilIface → FR W F 0 0 0 0 0 0 0 0 0 (.slice none 0 0) (.slice none 0 0) → F ≠ g → Below w.heap.size w W → w.heap.size ≤ F → W.heap.size = w.heap.size + 2 → Calls Tryd.prog 24 #[.pointer (some ⟨F, 0, none⟩), .pointer (some ⟨g, 0, none⟩)] W fun e w' => ∃ (p : Nat) (y0 y1 y2 y3 y4 y5 y6 y7 y8 : Int) (ao : Option Addr) (lo co : Nat), e = .returned (.tuple #[]) ∧ Cur w' g (.slice a n cap) p (wErr c) ∧ p ≤ n ∧ FR w' F y0 y1 y2 y3 y4 y5 y6 y7 y8 (.slice ao lo co) (.slice none 0 0) ∧ (0 ≤ y0 ∧ y0 ≤ 255) ∧ (0 ≤ y2 ∧ y2 ≤ 65535) ∧ (0 ≤ y4 ∧ y4 ≤ 65535) ∧ Only [g, F] W w') :
    Calls Tryd.prog 36 #[.pointer (some ⟨g, 0, none⟩)] w fun e w' => ∃ (p : Nat) (y0 y1 y2 y3 y4 y5 y6 y7 y8 : Int) (ao : Option Addr) (lo co : Nat) (ap : Option Addr), e = .returned (.agg #[.int .i64 y0, .int .i64 y1, .int .i64 y2, .int .i64 y3, .int .i64 y4, .int .i64 y5, .int .i64 y6, .int .i64 y7, .int .i64 y8, .slice ao lo co, .slice ap 0 0]) ∧ Cur w' g (.slice a n cap) p (wErr c) ∧ Only [g] w w' := by
  have hgl := hc.lt
  have HT := hide hT
  have HI := hide (tpW_facts w g 0 _ _ hc)
  have HNF : Hid (w.heap.size + 1 ∉ [g]) := hide (by simp; omega)
  have HNR : Hid (w.heap.size ∉ [g]) := hide (by simp; omega)
  have HGR : Hid (some g ≠ some w.heap.size) := hide (by intro e; cases e; omega)
  clear hc hT
  go_enter Tryd.func36, Tryd.ntmps36
  go_wp2_with fail
  generalize hW : tpW w = W at *
  unfold tpW at hW
  rw [hW]
  clear hW
  refine (HT.out W (w.heap.size + 1) HI.out.1 HI.out.2.2.1 (by omega) HI.out.2.2.2.1 (by omega) HI.out.2.2.2.2).mono ?_
  rintro e W1 ⟨p, y0, y1, y2, y3, y4, y5, y6, y7, y8, ao, lo, co, rfl, hc1, hp1, hf1, ⟨b0, b1⟩, ⟨b2, b3⟩, ⟨b4, b5⟩, ho1⟩
  have HC := hide hc1
  have HF := hide hf1
  have HR := hide (HI.out.2.1.only ho1 (by simp; omega))
  have HO : Hid (Only [g, w.heap.size + 1] w W1) := hide ((Only.of_below HI.out.2.2.2.1).trans ho1)
  clear HT HI hc1 hf1 ho1
  go_wp2_with fail
  by_cases h1 : y0 % 16 * 4 ≤ y2
  · skip
    have HC2 := hide (Cur.drew (w := W1) HC.out)
    have HF2 := hide (FR.drew (w := W1) HF.out)
    have HR2 := hide (FR.drew (w := W1) HR.out)
    have HO2 := hide (HO.out.trans (only_drew W1))
    refine region_tail 18 (by kernel_rfl) (by kernel_rfl) ?_
    clear HC HF HR HO
    generalize W1.drew = W2 at *
    have HC := HC2
    have HF := HF2
    have HR := HR2
    have HO := HO2
    clear HC2 HF2 HR2 HO2
    obtain ⟨f0, f1, f2, f3, f4, f5, f6, f7, f8, f9, f10, ff⟩ := HF.out.cells
    obtain ⟨c0, c1, c2, cf⟩ := HC.out.cells
    simp only [List.take_succ_cons, List.take_zero, List.drop_succ_cons, List.drop_zero]
    repeat (first | go_big_quiet_skip | (go_big_quiet_want; go_big_quiet_op; first | go_big_quiet_on | (apply Exists.intro; refine ⟨hsize_walk (w.heap.size + 1) y0 W2 f0, ?_⟩; go_big_quiet_on)))
    refine wpQuiet_nil ?_
    clear c0 c1 c2 cf f0 f1 f2 f3 f4 f5 f6 f7 f8 f9 f10 ff
    go_wp2_with fail
    refine (demand_err g _ _ c _ _ W2 HC.out).mono ?_
    rintro e v ⟨rfl, hv⟩
    rw [hv]
    clear hv
    go_wp2_with fail
    have HC2 := hide (Cur.drew (w := W2) HC.out)
    have HF2 := hide (FR.drew (w := W2) HF.out)
    have HR2 := hide (FR.drew (w := W2) HR.out)
    have HO2 := hide (HO.out.trans (only_drew W2))
    refine region_tail 7 (by kernel_rfl) (by kernel_rfl) ?_
    clear HC HF HR HO
    generalize W2.drew = W5 at *
    have HC := HC2
    have HF := HF2
    have HR := HR2
    have HO := HO2
    clear HC2 HF2 HR2 HO2
    obtain ⟨f0, f1, f2, f3, f4, f5, f6, f7, f8, f9, f10, ff⟩ := HF.out.cells
    obtain ⟨c0, c1, c2, cf⟩ := HC.out.cells
    simp only [List.take_succ_cons, List.take_zero, List.drop_succ_cons, List.drop_zero]
    repeat (first | go_big_quiet_skip | (go_big_quiet_want; go_big_quiet_op; first | go_big_quiet_on | (apply Exists.intro; refine ⟨hsize_walk (w.heap.size + 1) y0 W5 f0, ?_⟩; go_big_quiet_on)))
    refine wpQuiet_nil ?_
    clear c0 c1 c2 cf f0 f1 f2 f3 f4 f5 f6 f7 f8 f9 f10 ff
    go_wp2_with fail
    refine (takeBytes_err g _ n cap a c _ W5 HC.out (by omega) (by omega) (by omega) (by omega)).mono ?_
    rintro e U ⟨rfl, hbU⟩
    have HF2 := hide (HF.out.only (Only.of_below (S := [g]) hbU) HNF.out)
    have HR2 := hide (HR.out.only (Only.of_below (S := [g]) hbU) HNR.out)
    have HO2 := hide (HO.out.trans (Only.mono (T := [g, (w.heap.size + 1)]) (Only.of_below (S := [g]) hbU) (by simp)))
    have HC2 := hide (HC.out.below hbU HC.out.lt)
    clear HC HF HR HO
    have HC := HC2
    have HF := HF2
    have HR := HR2
    have HO := HO2
    clear HC2 HF2 HR2 HO2
    clear hbU
    generalize W5.heap.size = K at *
    obtain ⟨f0, f1, f2, f3, f4, f5, f6, f7, f8, f9, f10, ff⟩ := HF.out.cells
    have HF2 := hide (HF.out.set10 (.slice (some ⟨K, 0, none⟩) 0 0))
    have HC2 := hide (HC.out.kept (grown_cell U (w.heap.size + 1) 10 (.slice (some ⟨K, 0, none⟩) 0 0)) (by intro e; cases e; omega))
    have HR2 := hide (HR.out.only (Only.of_some (grown_cell U (w.heap.size + 1) 10 (.slice (some ⟨K, 0, none⟩) 0 0))) (by simp))
    have HO2 := hide (HO.out.trans (only_cell (g := g) 10 (.slice (some ⟨K, 0, none⟩) 0 0)))
    clear HC HF HR HO
    go_wp2_with fail
    generalize hV : U.setCell ⟨w.heap.size + 1, 10, none⟩ (.slice (some ⟨K, 0, none⟩) 0 0) = W6 at *
    clear hV f0 f1 f2 f3 f4 f5 f6 f7 f8 f9 f10 ff
    have HC := HC2
    have HF := HF2
    have HR := HR2
    have HO := HO2
    clear HC2 HF2 HR2 HO2
    cases hh : (bits .and .i64 y4 32768 != 0) with
    | true =>
      have HC2 := hide (Cur.drew (w := W6) HC.out)
      have HF2 := hide (FR.drew (w := W6) HF.out)
      have HR2 := hide (FR.drew (w := W6) HR.out)
      have HO2 := hide (HO.out.trans (only_drew W6))
      refine region_tail 11 (by kernel_rfl) (by kernel_rfl) ?_
      clear HC HF HR HO
      generalize W6.drew = W7 at *
      have HC := HC2
      have HF := HF2
      have HR := HR2
      have HO := HO2
      clear HC2 HF2 HR2 HO2
      obtain ⟨f0, f1, f2, f3, f4, f5, f6, f7, f8, f9, f10, ff⟩ := HF.out.cells
      obtain ⟨c0, c1, c2, cf⟩ := HC.out.cells
      simp only [List.take_succ_cons, List.take_zero, List.drop_succ_cons, List.drop_zero]
      repeat (first | go_big_quiet_skip | (go_big_quiet_want; go_big_quiet_op; first | go_big_quiet_on | (apply Exists.intro; refine ⟨has_lit (w.heap.size + 1) y4 32768 true W7 f4 hh, ?_⟩; go_big_quiet_on) | (apply Exists.intro; refine ⟨hoffset_walk (w.heap.size + 1) y4 W7 f4, ?_⟩; go_big_quiet_on) | (apply Exists.intro; refine ⟨within_walk _ _ _ _ W7 (by omega) (by omega) (by omega), ?_⟩; go_big_quiet_on)))
      refine wpQuiet_nil ?_
      clear c0 c1 c2 cf f0 f1 f2 f3 f4 f5 f6 f7 f8 f9 f10 ff
      go_wp2_with fail
      refine (demand_err g _ _ c _ _ W7 HC.out).mono ?_
      rintro e v ⟨rfl, hv⟩
      rw [hv]
      clear hv
      obtain ⟨f0, f1, f2, f3, f4, f5, f6, f7, f8, f9, f10, ff⟩ := HF.out.cells
      obtain ⟨d0, d1, d2, d3, d4, d5, d6, d7, d8, d9, d10, df⟩ := HR.out.cells
      go_wp2_with fail
      exact bodyPost_ret (v := .agg #[.int .i64 y0, .int .i64 y1, .int .i64 y2, .int .i64 y3, .int .i64 y4, .int .i64 y5, .int .i64 y6, .int .i64 y7, .int .i64 y8, .slice ao lo co, .slice (some ⟨K, 0, none⟩) 0 0]) (by simp [results, Tryd.results36, go_sem, d0, d1, d2, d3, d4, d5, d6, d7, d8, d9, d10]) rfl ⟨_, y0, y1, y2, y3, y4, y5, y6, y7, y8, _, _, _, _, rfl, cur_11 HC.out HGR.out, only_new (only_11 HO.out (Nat.le_refl _)) (by intro x hx; simp at hx; omega)⟩
    | false =>
      have HC2 := hide (Cur.drew (w := W6) HC.out)
      have HF2 := hide (FR.drew (w := W6) HF.out)
      have HR2 := hide (FR.drew (w := W6) HR.out)
      have HO2 := hide (HO.out.trans (only_drew W6))
      refine region_tail 11 (by kernel_rfl) (by kernel_rfl) ?_
      clear HC HF HR HO
      generalize W6.drew = W7 at *
      have HC := HC2
      have HF := HF2
      have HR := HR2
      have HO := HO2
      clear HC2 HF2 HR2 HO2
      obtain ⟨f0, f1, f2, f3, f4, f5, f6, f7, f8, f9, f10, ff⟩ := HF.out.cells
      obtain ⟨c0, c1, c2, cf⟩ := HC.out.cells
      simp only [List.take_succ_cons, List.take_zero, List.drop_succ_cons, List.drop_zero]
      repeat (first | go_big_quiet_skip | (go_big_quiet_want; go_big_quiet_op; first | go_big_quiet_on | (apply Exists.intro; refine ⟨has_lit (w.heap.size + 1) y4 32768 false W7 f4 hh, ?_⟩; go_big_quiet_on) | (apply Exists.intro; refine ⟨hoffset_walk (w.heap.size + 1) y4 W7 f4, ?_⟩; go_big_quiet_on) | (apply Exists.intro; refine ⟨within_walk _ _ _ _ W7 (by omega) (by omega) (by omega), ?_⟩; go_big_quiet_on)))
      refine wpQuiet_nil ?_
      clear c0 c1 c2 cf f0 f1 f2 f3 f4 f5 f6 f7 f8 f9 f10 ff
      go_wp2_with fail
      refine (demand_err g _ _ c _ _ W7 HC.out).mono ?_
      rintro e v ⟨rfl, hv⟩
      rw [hv]
      clear hv
      obtain ⟨f0, f1, f2, f3, f4, f5, f6, f7, f8, f9, f10, ff⟩ := HF.out.cells
      obtain ⟨d0, d1, d2, d3, d4, d5, d6, d7, d8, d9, d10, df⟩ := HR.out.cells
      go_wp2_with fail
      exact bodyPost_ret (v := .agg #[.int .i64 y0, .int .i64 y1, .int .i64 y2, .int .i64 y3, .int .i64 y4, .int .i64 y5, .int .i64 y6, .int .i64 y7, .int .i64 y8, .slice ao lo co, .slice (some ⟨K, 0, none⟩) 0 0]) (by simp [results, Tryd.results36, go_sem, d0, d1, d2, d3, d4, d5, d6, d7, d8, d9, d10]) rfl ⟨_, y0, y1, y2, y3, y4, y5, y6, y7, y8, _, _, _, _, rfl, cur_11 HC.out HGR.out, only_new (only_11 HO.out (Nat.le_refl _)) (by intro x hx; simp at hx; omega)⟩
  · have h2 : decide (y0 % 16 * 4 ≤ y2) = false := decide_eq_false h1
    have HC2 := hide (Cur.drew (w := W1) HC.out)
    have HF2 := hide (FR.drew (w := W1) HF.out)
    have HR2 := hide (FR.drew (w := W1) HR.out)
    have HO2 := hide (HO.out.trans (only_drew W1))
    refine region_tail 18 (by kernel_rfl) (by kernel_rfl) ?_
    clear HC HF HR HO
    generalize W1.drew = W2 at *
    have HC := HC2
    have HF := HF2
    have HR := HR2
    have HO := HO2
    clear HC2 HF2 HR2 HO2
    obtain ⟨f0, f1, f2, f3, f4, f5, f6, f7, f8, f9, f10, ff⟩ := HF.out.cells
    obtain ⟨c0, c1, c2, cf⟩ := HC.out.cells
    simp only [List.take_succ_cons, List.take_zero, List.drop_succ_cons, List.drop_zero]
    repeat (first | go_big_quiet_skip | (go_big_quiet_want; go_big_quiet_op; first | go_big_quiet_on | (apply Exists.intro; refine ⟨hsize_walk (w.heap.size + 1) y0 W2 f0, ?_⟩; go_big_quiet_on)))
    refine wpQuiet_nil ?_
    clear c0 c1 c2 cf f0 f1 f2 f3 f4 f5 f6 f7 f8 f9 f10 ff
    go_wp2_with fail
    refine (demand_err g _ _ c _ _ W2 HC.out).mono ?_
    rintro e v ⟨rfl, hv⟩
    rw [hv]
    clear hv
    go_wp2_with fail
    have HC2 := hide (Cur.drew (w := W2) HC.out)
    have HF2 := hide (FR.drew (w := W2) HF.out)
    have HR2 := hide (FR.drew (w := W2) HR.out)
    have HO2 := hide (HO.out.trans (only_drew W2))
    refine region_tail 7 (by kernel_rfl) (by kernel_rfl) ?_
    clear HC HF HR HO
    generalize W2.drew = W5 at *
    have HC := HC2
    have HF := HF2
    have HR := HR2
    have HO := HO2
    clear HC2 HF2 HR2 HO2
    obtain ⟨f0, f1, f2, f3, f4, f5, f6, f7, f8, f9, f10, ff⟩ := HF.out.cells
    obtain ⟨c0, c1, c2, cf⟩ := HC.out.cells
    simp only [List.take_succ_cons, List.take_zero, List.drop_succ_cons, List.drop_zero]
    repeat (first | go_big_quiet_skip | (go_big_quiet_want; go_big_quiet_op; first | go_big_quiet_on | (apply Exists.intro; refine ⟨hsize_walk (w.heap.size + 1) y0 W5 f0, ?_⟩; go_big_quiet_on)))
    refine wpQuiet_nil ?_
    clear c0 c1 c2 cf f0 f1 f2 f3 f4 f5 f6 f7 f8 f9 f10 ff
    go_wp2_with fail
    refine (takeBytes_err g _ n cap a c _ W5 HC.out (by omega) (by omega) (by omega) (by omega)).mono ?_
    rintro e U ⟨rfl, hbU⟩
    have HF2 := hide (HF.out.only (Only.of_below (S := [g]) hbU) HNF.out)
    have HR2 := hide (HR.out.only (Only.of_below (S := [g]) hbU) HNR.out)
    have HO2 := hide (HO.out.trans (Only.mono (T := [g, (w.heap.size + 1)]) (Only.of_below (S := [g]) hbU) (by simp)))
    have HC2 := hide (HC.out.below hbU HC.out.lt)
    clear HC HF HR HO
    have HC := HC2
    have HF := HF2
    have HR := HR2
    have HO := HO2
    clear HC2 HF2 HR2 HO2
    clear hbU
    generalize W5.heap.size = K at *
    obtain ⟨f0, f1, f2, f3, f4, f5, f6, f7, f8, f9, f10, ff⟩ := HF.out.cells
    have HF2 := hide (HF.out.set10 (.slice (some ⟨K, 0, none⟩) 0 0))
    have HC2 := hide (HC.out.kept (grown_cell U (w.heap.size + 1) 10 (.slice (some ⟨K, 0, none⟩) 0 0)) (by intro e; cases e; omega))
    have HR2 := hide (HR.out.only (Only.of_some (grown_cell U (w.heap.size + 1) 10 (.slice (some ⟨K, 0, none⟩) 0 0))) (by simp))
    have HO2 := hide (HO.out.trans (only_cell (g := g) 10 (.slice (some ⟨K, 0, none⟩) 0 0)))
    clear HC HF HR HO
    go_wp2_with fail
    generalize hV : U.setCell ⟨w.heap.size + 1, 10, none⟩ (.slice (some ⟨K, 0, none⟩) 0 0) = W6 at *
    clear hV f0 f1 f2 f3 f4 f5 f6 f7 f8 f9 f10 ff
    have HC := HC2
    have HF := HF2
    have HR := HR2
    have HO := HO2
    clear HC2 HF2 HR2 HO2
    cases hh : (bits .and .i64 y4 32768 != 0) with
    | true =>
      have HC2 := hide (Cur.drew (w := W6) HC.out)
      have HF2 := hide (FR.drew (w := W6) HF.out)
      have HR2 := hide (FR.drew (w := W6) HR.out)
      have HO2 := hide (HO.out.trans (only_drew W6))
      refine region_tail 11 (by kernel_rfl) (by kernel_rfl) ?_
      clear HC HF HR HO
      generalize W6.drew = W7 at *
      have HC := HC2
      have HF := HF2
      have HR := HR2
      have HO := HO2
      clear HC2 HF2 HR2 HO2
      obtain ⟨f0, f1, f2, f3, f4, f5, f6, f7, f8, f9, f10, ff⟩ := HF.out.cells
      obtain ⟨c0, c1, c2, cf⟩ := HC.out.cells
      simp only [List.take_succ_cons, List.take_zero, List.drop_succ_cons, List.drop_zero]
      repeat (first | go_big_quiet_skip | (go_big_quiet_want; go_big_quiet_op; first | go_big_quiet_on | (apply Exists.intro; refine ⟨has_lit (w.heap.size + 1) y4 32768 true W7 f4 hh, ?_⟩; go_big_quiet_on) | (apply Exists.intro; refine ⟨hoffset_walk (w.heap.size + 1) y4 W7 f4, ?_⟩; go_big_quiet_on) | (apply Exists.intro; refine ⟨within_walk _ _ _ _ W7 (by omega) (by omega) (by omega), ?_⟩; go_big_quiet_on)))
      refine wpQuiet_nil ?_
      clear c0 c1 c2 cf f0 f1 f2 f3 f4 f5 f6 f7 f8 f9 f10 ff
      go_wp2_with fail
      refine (demand_err g _ _ c _ _ W7 HC.out).mono ?_
      rintro e v ⟨rfl, hv⟩
      rw [hv]
      clear hv
      obtain ⟨f0, f1, f2, f3, f4, f5, f6, f7, f8, f9, f10, ff⟩ := HF.out.cells
      obtain ⟨d0, d1, d2, d3, d4, d5, d6, d7, d8, d9, d10, df⟩ := HR.out.cells
      go_wp2_with fail
      exact bodyPost_ret (v := .agg #[.int .i64 y0, .int .i64 y1, .int .i64 y2, .int .i64 y3, .int .i64 y4, .int .i64 y5, .int .i64 y6, .int .i64 y7, .int .i64 y8, .slice ao lo co, .slice (some ⟨K, 0, none⟩) 0 0]) (by simp [results, Tryd.results36, go_sem, d0, d1, d2, d3, d4, d5, d6, d7, d8, d9, d10]) rfl ⟨_, y0, y1, y2, y3, y4, y5, y6, y7, y8, _, _, _, _, rfl, cur_11 HC.out HGR.out, only_new (only_11 HO.out (Nat.le_refl _)) (by intro x hx; simp at hx; omega)⟩
    | false =>
      have HC2 := hide (Cur.drew (w := W6) HC.out)
      have HF2 := hide (FR.drew (w := W6) HF.out)
      have HR2 := hide (FR.drew (w := W6) HR.out)
      have HO2 := hide (HO.out.trans (only_drew W6))
      refine region_tail 11 (by kernel_rfl) (by kernel_rfl) ?_
      clear HC HF HR HO
      generalize W6.drew = W7 at *
      have HC := HC2
      have HF := HF2
      have HR := HR2
      have HO := HO2
      clear HC2 HF2 HR2 HO2
      obtain ⟨f0, f1, f2, f3, f4, f5, f6, f7, f8, f9, f10, ff⟩ := HF.out.cells
      obtain ⟨c0, c1, c2, cf⟩ := HC.out.cells
      simp only [List.take_succ_cons, List.take_zero, List.drop_succ_cons, List.drop_zero]
      repeat (first | go_big_quiet_skip | (go_big_quiet_want; go_big_quiet_op; first | go_big_quiet_on | (apply Exists.intro; refine ⟨has_lit (w.heap.size + 1) y4 32768 false W7 f4 hh, ?_⟩; go_big_quiet_on) | (apply Exists.intro; refine ⟨hoffset_walk (w.heap.size + 1) y4 W7 f4, ?_⟩; go_big_quiet_on) | (apply Exists.intro; refine ⟨within_walk _ _ _ _ W7 (by omega) (by omega) (by omega), ?_⟩; go_big_quiet_on)))
      refine wpQuiet_nil ?_
      clear c0 c1 c2 cf f0 f1 f2 f3 f4 f5 f6 f7 f8 f9 f10 ff
      go_wp2_with fail
      refine (demand_err g _ _ c _ _ W7 HC.out).mono ?_
      rintro e v ⟨rfl, hv⟩
      rw [hv]
      clear hv
      obtain ⟨f0, f1, f2, f3, f4, f5, f6, f7, f8, f9, f10, ff⟩ := HF.out.cells
      obtain ⟨d0, d1, d2, d3, d4, d5, d6, d7, d8, d9, d10, df⟩ := HR.out.cells
      go_wp2_with fail
      exact bodyPost_ret (v := .agg #[.int .i64 y0, .int .i64 y1, .int .i64 y2, .int .i64 y3, .int .i64 y4, .int .i64 y5, .int .i64 y6, .int .i64 y7, .int .i64 y8, .slice ao lo co, .slice (some ⟨K, 0, none⟩) 0 0]) (by simp [results, Tryd.results36, go_sem, d0, d1, d2, d3, d4, d5, d6, d7, d8, d9, d10]) rfl ⟨_, y0, y1, y2, y3, y4, y5, y6, y7, y8, _, _, _, _, rfl, cur_11 HC.out HGR.out, only_new (only_11 HO.out (Nat.le_refl _)) (by intro x hx; simp at hx; omega)⟩

set_option maxHeartbeats 8000000 in
theorem takePacket_low (g n cap b off : Nat) (w : World) (hc : Cur w g (.slice (some ⟨b, off, none⟩) n cap) 0 .nilIface) (hm : n ≤ 1048576) (y0 y1 y2 y3 y4 y5 y6 y7 y8 : Int) (b0 : 0 ≤ y0) (b1 : y0 ≤ 255) (b2 : 0 ≤ y2) (b3 : y2 ≤ 65535) (b4 : 0 ≤ y4) (b5 : y4 ≤ 65535) (ko : Nat) (LO : List Int) (hkn : 20 + ko ≤ n) (h1 : decide (y0 % 16 * 4 ≤ y2) = false)
    (hT : ∀ W F, Cur W g (.slice (some ⟨b, off, none⟩) n cap) 0 .nilIface → FR W F 0 0 0 0 0 0 0 0 0 (.slice none 0 0) (.slice none 0 0) → F ≠ g → Below w.heap.size w W → w.heap.size ≤ F → W.heap.size = w.heap.size + 2 → Calls Tryd.prog 24 #[.pointer (some ⟨F, 0, none⟩), .pointer (some ⟨g, 0, none⟩)] W fun e w' => ∃ (ao : Option Addr) (co : Nat), e = .returned (.tuple #[]) ∧ Cur w' g (.slice (some ⟨b, off, none⟩) n cap) (20 + ko) .nilIface ∧ FR w' F y0 y1 y2 y3 y4 y5 y6 y7 y8 (.slice ao ko co) (.slice none 0 0) ∧ OwnB w' (w.heap.size + 2) (.slice ao ko co) LO ∧ Only [g, F] W w') :
    Calls Tryd.prog 36 #[.pointer (some ⟨g, 0, none⟩)] w fun e w' => ∃ (p : Nat) (y0 y1 y2 y3 y4 y5 y6 y7 y8 : Int) (ao : Option Addr) (lo co : Nat) (ap : Option Addr), e = .returned (.agg #[.int .i64 y0, .int .i64 y1, .int .i64 y2, .int .i64 y3, .int .i64 y4, .int .i64 y5, .int .i64 y6, .int .i64 y7, .int .i64 y8, .slice ao lo co, .slice ap 0 0]) ∧ Cur w' g (.slice (some ⟨b, off, none⟩) n cap) p (wErr 5) ∧ Only [g] w w' := by
  have hgl := hc.lt
  have HT := hide hT
  have HI := hide (tpW_facts w g 0 _ _ hc)
  have HNF : Hid (w.heap.size + 1 ∉ [g]) := hide (by simp; omega)
  have HNR : Hid (w.heap.size ∉ [g]) := hide (by simp; omega)
  have HGR : Hid (some g ≠ some w.heap.size) := hide (by intro e; cases e; omega)
  clear hc hT
  go_enter Tryd.func36, Tryd.ntmps36
  go_wp2_with fail
  generalize hW : tpW w = W at *
  unfold tpW at hW
  rw [hW]
  clear hW
  refine (HT.out W (w.heap.size + 1) HI.out.1 HI.out.2.2.1 (by omega) HI.out.2.2.2.1 (by omega) HI.out.2.2.2.2).mono ?_
  rintro e W1 ⟨ao, co, rfl, hc1, hf1, hw1, ho1⟩
  have HC := hide hc1
  have HF := hide hf1
  have HR := hide (HI.out.2.1.only ho1 (by simp; omega))
  have HO : Hid (Only [g, w.heap.size + 1] w W1) := hide ((Only.of_below HI.out.2.2.2.1).trans ho1)
  clear HT HI hc1 hf1 ho1 hw1
  go_wp2_with fail
  have HC2 := hide (Cur.drew (w := W1) HC.out)
  have HF2 := hide (FR.drew (w := W1) HF.out)
  have HR2 := hide (FR.drew (w := W1) HR.out)
  have HO2 := hide (HO.out.trans (only_drew W1))
  refine region_tail 18 (by kernel_rfl) (by kernel_rfl) ?_
  clear HC HF HR HO
  generalize W1.drew = W2 at *
  have HC := HC2
  have HF := HF2
  have HR := HR2
  have HO := HO2
  clear HC2 HF2 HR2 HO2
  obtain ⟨f0, f1, f2, f3, f4, f5, f6, f7, f8, f9, f10, ff⟩ := HF.out.cells
  obtain ⟨c0, c1, c2, cf⟩ := HC.out.cells
  simp only [List.take_succ_cons, List.take_zero, List.drop_succ_cons, List.drop_zero]
  repeat (first | go_big_quiet_skip | (go_big_quiet_want; go_big_quiet_op; first | go_big_quiet_on | (apply Exists.intro; refine ⟨hsize_walk (w.heap.size + 1) y0 W2 f0, ?_⟩; go_big_quiet_on)))
  refine wpQuiet_nil ?_
  clear c0 c1 c2 cf f0 f1 f2 f3 f4 f5 f6 f7 f8 f9 f10 ff
  go_wp2_with fail
  refine (demand_no g _ _ 5 W2 HC.out).mono ?_
  rintro e W3 ⟨rfl, hc2, hg2⟩
  have HF2 := hide (HF.out.only (Only.of_some hg2) HNF.out)
  have HR2 := hide (HR.out.only (Only.of_some hg2) HNR.out)
  have HO2 := hide (HO.out.trans (Only.mono (T := [g, (w.heap.size + 1)]) (Only.of_some hg2) (by simp)))
  have HC2 := hide (hc2)
  clear HC HF HR HO
  have HC := HC2
  have HF := HF2
  have HR := HR2
  have HO := HO2
  clear HC2 HF2 HR2 HO2
  clear hc2 hg2
  go_wp2_with fail
  have HC2 := hide (Cur.drew (w := W3) HC.out)
  have HF2 := hide (FR.drew (w := W3) HF.out)
  have HR2 := hide (FR.drew (w := W3) HR.out)
  have HO2 := hide (HO.out.trans (only_drew W3))
  refine region_tail 7 (by kernel_rfl) (by kernel_rfl) ?_
  clear HC HF HR HO
  generalize W3.drew = W5 at *
  have HC := HC2
  have HF := HF2
  have HR := HR2
  have HO := HO2
  clear HC2 HF2 HR2 HO2
  obtain ⟨f0, f1, f2, f3, f4, f5, f6, f7, f8, f9, f10, ff⟩ := HF.out.cells
  obtain ⟨c0, c1, c2, cf⟩ := HC.out.cells
  simp only [List.take_succ_cons, List.take_zero, List.drop_succ_cons, List.drop_zero]
  repeat (first | go_big_quiet_skip | (go_big_quiet_want; go_big_quiet_op; first | go_big_quiet_on | (apply Exists.intro; refine ⟨hsize_walk (w.heap.size + 1) y0 W5 f0, ?_⟩; go_big_quiet_on)))
  refine wpQuiet_nil ?_
  clear c0 c1 c2 cf f0 f1 f2 f3 f4 f5 f6 f7 f8 f9 f10 ff
  go_wp2_with fail
  refine (takeBytes_err g _ n cap (some ⟨b, off, none⟩) 5 _ W5 HC.out (by omega) (by omega) (by omega) (by omega)).mono ?_
  rintro e U ⟨rfl, hbU⟩
  have HF2 := hide (HF.out.only (Only.of_below (S := [g]) hbU) HNF.out)
  have HR2 := hide (HR.out.only (Only.of_below (S := [g]) hbU) HNR.out)
  have HO2 := hide (HO.out.trans (Only.mono (T := [g, (w.heap.size + 1)]) (Only.of_below (S := [g]) hbU) (by simp)))
  have HC2 := hide (HC.out.below hbU HC.out.lt)
  clear HC HF HR HO
  have HC := HC2
  have HF := HF2
  have HR := HR2
  have HO := HO2
  clear HC2 HF2 HR2 HO2
  clear hbU
  generalize W5.heap.size = K at *
  obtain ⟨f0, f1, f2, f3, f4, f5, f6, f7, f8, f9, f10, ff⟩ := HF.out.cells
  have HF2 := hide (HF.out.set10 (.slice (some ⟨K, 0, none⟩) 0 0))
  have HC2 := hide (HC.out.kept (grown_cell U (w.heap.size + 1) 10 (.slice (some ⟨K, 0, none⟩) 0 0)) (by intro e; cases e; omega))
  have HR2 := hide (HR.out.only (Only.of_some (grown_cell U (w.heap.size + 1) 10 (.slice (some ⟨K, 0, none⟩) 0 0))) (by simp))
  have HO2 := hide (HO.out.trans (only_cell (g := g) 10 (.slice (some ⟨K, 0, none⟩) 0 0)))
  clear HC HF HR HO
  go_wp2_with fail
  generalize hV : U.setCell ⟨w.heap.size + 1, 10, none⟩ (.slice (some ⟨K, 0, none⟩) 0 0) = W6 at *
  clear hV f0 f1 f2 f3 f4 f5 f6 f7 f8 f9 f10 ff
  have HC := HC2
  have HF := HF2
  have HR := HR2
  have HO := HO2
  clear HC2 HF2 HR2 HO2
  cases hh : (bits .and .i64 y4 32768 != 0) with
  | true =>
    have HC2 := hide (Cur.drew (w := W6) HC.out)
    have HF2 := hide (FR.drew (w := W6) HF.out)
    have HR2 := hide (FR.drew (w := W6) HR.out)
    have HO2 := hide (HO.out.trans (only_drew W6))
    refine region_tail 11 (by kernel_rfl) (by kernel_rfl) ?_
    clear HC HF HR HO
    generalize W6.drew = W7 at *
    have HC := HC2
    have HF := HF2
    have HR := HR2
    have HO := HO2
    clear HC2 HF2 HR2 HO2
    obtain ⟨f0, f1, f2, f3, f4, f5, f6, f7, f8, f9, f10, ff⟩ := HF.out.cells
    obtain ⟨c0, c1, c2, cf⟩ := HC.out.cells
    simp only [List.take_succ_cons, List.take_zero, List.drop_succ_cons, List.drop_zero]
    repeat (first | go_big_quiet_skip | (go_big_quiet_want; go_big_quiet_op; first | go_big_quiet_on | (apply Exists.intro; refine ⟨has_lit (w.heap.size + 1) y4 32768 true W7 f4 hh, ?_⟩; go_big_quiet_on) | (apply Exists.intro; refine ⟨hoffset_walk (w.heap.size + 1) y4 W7 f4, ?_⟩; go_big_quiet_on) | (apply Exists.intro; refine ⟨within_walk _ _ _ _ W7 (by omega) (by omega) (by omega), ?_⟩; go_big_quiet_on)))
    refine wpQuiet_nil ?_
    clear c0 c1 c2 cf f0 f1 f2 f3 f4 f5 f6 f7 f8 f9 f10 ff
    go_wp2_with fail
    refine (demand_err g _ _ 5 _ _ W7 HC.out).mono ?_
    rintro e v ⟨rfl, hv⟩
    rw [hv]
    clear hv
    obtain ⟨f0, f1, f2, f3, f4, f5, f6, f7, f8, f9, f10, ff⟩ := HF.out.cells
    obtain ⟨d0, d1, d2, d3, d4, d5, d6, d7, d8, d9, d10, df⟩ := HR.out.cells
    go_wp2_with fail
    exact bodyPost_ret (v := .agg #[.int .i64 y0, .int .i64 y1, .int .i64 y2, .int .i64 y3, .int .i64 y4, .int .i64 y5, .int .i64 y6, .int .i64 y7, .int .i64 y8, .slice ao ko co, .slice (some ⟨K, 0, none⟩) 0 0]) (by simp [results, Tryd.results36, go_sem, d0, d1, d2, d3, d4, d5, d6, d7, d8, d9, d10]) rfl ⟨_, y0, y1, y2, y3, y4, y5, y6, y7, y8, _, _, _, _, rfl, cur_11 HC.out HGR.out, only_new (only_11 HO.out (Nat.le_refl _)) (by intro x hx; simp at hx; omega)⟩
  | false =>
    have HC2 := hide (Cur.drew (w := W6) HC.out)
    have HF2 := hide (FR.drew (w := W6) HF.out)
    have HR2 := hide (FR.drew (w := W6) HR.out)
    have HO2 := hide (HO.out.trans (only_drew W6))
    refine region_tail 11 (by kernel_rfl) (by kernel_rfl) ?_
    clear HC HF HR HO
    generalize W6.drew = W7 at *
    have HC := HC2
    have HF := HF2
    have HR := HR2
    have HO := HO2
    clear HC2 HF2 HR2 HO2
    obtain ⟨f0, f1, f2, f3, f4, f5, f6, f7, f8, f9, f10, ff⟩ := HF.out.cells
    obtain ⟨c0, c1, c2, cf⟩ := HC.out.cells
    simp only [List.take_succ_cons, List.take_zero, List.drop_succ_cons, List.drop_zero]
    repeat (first | go_big_quiet_skip | (go_big_quiet_want; go_big_quiet_op; first | go_big_quiet_on | (apply Exists.intro; refine ⟨has_lit (w.heap.size + 1) y4 32768 false W7 f4 hh, ?_⟩; go_big_quiet_on) | (apply Exists.intro; refine ⟨hoffset_walk (w.heap.size + 1) y4 W7 f4, ?_⟩; go_big_quiet_on) | (apply Exists.intro; refine ⟨within_walk _ _ _ _ W7 (by omega) (by omega) (by omega), ?_⟩; go_big_quiet_on)))
    refine wpQuiet_nil ?_
    clear c0 c1 c2 cf f0 f1 f2 f3 f4 f5 f6 f7 f8 f9 f10 ff
    go_wp2_with fail
    refine (demand_err g _ _ 5 _ _ W7 HC.out).mono ?_
    rintro e v ⟨rfl, hv⟩
    rw [hv]
    clear hv
    obtain ⟨f0, f1, f2, f3, f4, f5, f6, f7, f8, f9, f10, ff⟩ := HF.out.cells
    obtain ⟨d0, d1, d2, d3, d4, d5, d6, d7, d8, d9, d10, df⟩ := HR.out.cells
    go_wp2_with fail
    exact bodyPost_ret (v := .agg #[.int .i64 y0, .int .i64 y1, .int .i64 y2, .int .i64 y3, .int .i64 y4, .int .i64 y5, .int .i64 y6, .int .i64 y7, .int .i64 y8, .slice ao ko co, .slice (some ⟨K, 0, none⟩) 0 0]) (by simp [results, Tryd.results36, go_sem, d0, d1, d2, d3, d4, d5, d6, d7, d8, d9, d10]) rfl ⟨_, y0, y1, y2, y3, y4, y5, y6, y7, y8, _, _, _, _, rfl, cur_11 HC.out HGR.out, only_new (only_11 HO.out (Nat.le_refl _)) (by intro x hx; simp at hx; omega)⟩

set_option maxHeartbeats 8000000 in
theorem takePacket_high (g n cap b off : Nat) (w : World) (hc : Cur w g (.slice (some ⟨b, off, none⟩) n cap) 0 .nilIface) (hm : n ≤ 1048576) (y0 y1 y2 y3 y4 y5 y6 y7 y8 : Int) (b0 : 0 ≤ y0) (b1 : y0 ≤ 255) (b2 : 0 ≤ y2) (b3 : y2 ≤ 65535) (b4 : 0 ≤ y4) (b5 : y4 ≤ 65535) (ko : Nat) (LO : List Int) (hkn : 20 + ko ≤ n) (h1 : y0 % 16 * 4 ≤ y2) (h2 : decide (y2 ≤ (n : Int)) = false)
    (hT : ∀ W F, Cur W g (.slice (some ⟨b, off, none⟩) n cap) 0 .nilIface → FR W F 0 0 0 0 0 0 0 0 0 (.slice none 0 0) (.slice none 0 0) → F ≠ g → Below w.heap.size w W → w.heap.size ≤ F → W.heap.size = w.heap.size + 2 → Calls Tryd.prog 24 #[.pointer (some ⟨F, 0, none⟩), .pointer (some ⟨g, 0, none⟩)] W fun e w' => ∃ (ao : Option Addr) (co : Nat), e = .returned (.tuple #[]) ∧ Cur w' g (.slice (some ⟨b, off, none⟩) n cap) (20 + ko) .nilIface ∧ FR w' F y0 y1 y2 y3 y4 y5 y6 y7 y8 (.slice ao ko co) (.slice none 0 0) ∧ OwnB w' (w.heap.size + 2) (.slice ao ko co) LO ∧ Only [g, F] W w') :
    Calls Tryd.prog 36 #[.pointer (some ⟨g, 0, none⟩)] w fun e w' => ∃ (p : Nat) (y0 y1 y2 y3 y4 y5 y6 y7 y8 : Int) (ao : Option Addr) (lo co : Nat) (ap : Option Addr), e = .returned (.agg #[.int .i64 y0, .int .i64 y1, .int .i64 y2, .int .i64 y3, .int .i64 y4, .int .i64 y5, .int .i64 y6, .int .i64 y7, .int .i64 y8, .slice ao lo co, .slice ap 0 0]) ∧ Cur w' g (.slice (some ⟨b, off, none⟩) n cap) p (wErr 5) ∧ Only [g] w w' := by
  have hgl := hc.lt
  have HT := hide hT
  have HI := hide (tpW_facts w g 0 _ _ hc)
  have HNF : Hid (w.heap.size + 1 ∉ [g]) := hide (by simp; omega)
  have HNR : Hid (w.heap.size ∉ [g]) := hide (by simp; omega)
  have HGR : Hid (some g ≠ some w.heap.size) := hide (by intro e; cases e; omega)
  clear hc hT
  go_enter Tryd.func36, Tryd.ntmps36
  go_wp2_with fail
  generalize hW : tpW w = W at *
  unfold tpW at hW
  rw [hW]
  clear hW
  refine (HT.out W (w.heap.size + 1) HI.out.1 HI.out.2.2.1 (by omega) HI.out.2.2.2.1 (by omega) HI.out.2.2.2.2).mono ?_
  rintro e W1 ⟨ao, co, rfl, hc1, hf1, hw1, ho1⟩
  have HC := hide hc1
  have HF := hide hf1
  have HR := hide (HI.out.2.1.only ho1 (by simp; omega))
  have HO : Hid (Only [g, w.heap.size + 1] w W1) := hide ((Only.of_below HI.out.2.2.2.1).trans ho1)
  clear HT HI hc1 hf1 ho1 hw1
  go_wp2_with fail
  have HC2 := hide (Cur.drew (w := W1) HC.out)
  have HF2 := hide (FR.drew (w := W1) HF.out)
  have HR2 := hide (FR.drew (w := W1) HR.out)
  have HO2 := hide (HO.out.trans (only_drew W1))
  refine region_tail 18 (by kernel_rfl) (by kernel_rfl) ?_
  clear HC HF HR HO
  generalize W1.drew = W2 at *
  have HC := HC2
  have HF := HF2
  have HR := HR2
  have HO := HO2
  clear HC2 HF2 HR2 HO2
  obtain ⟨f0, f1, f2, f3, f4, f5, f6, f7, f8, f9, f10, ff⟩ := HF.out.cells
  obtain ⟨c0, c1, c2, cf⟩ := HC.out.cells
  simp only [List.take_succ_cons, List.take_zero, List.drop_succ_cons, List.drop_zero]
  repeat (first | go_big_quiet_skip | (go_big_quiet_want; go_big_quiet_op; first | go_big_quiet_on | (apply Exists.intro; refine ⟨hsize_walk (w.heap.size + 1) y0 W2 f0, ?_⟩; go_big_quiet_on)))
  refine wpQuiet_nil ?_
  clear c0 c1 c2 cf f0 f1 f2 f3 f4 f5 f6 f7 f8 f9 f10 ff
  go_wp2_with fail
  refine (demand_no g _ _ 5 W2 HC.out).mono ?_
  rintro e W3 ⟨rfl, hc2, hg2⟩
  have HF2 := hide (HF.out.only (Only.of_some hg2) HNF.out)
  have HR2 := hide (HR.out.only (Only.of_some hg2) HNR.out)
  have HO2 := hide (HO.out.trans (Only.mono (T := [g, (w.heap.size + 1)]) (Only.of_some hg2) (by simp)))
  have HC2 := hide (hc2)
  clear HC HF HR HO
  have HC := HC2
  have HF := HF2
  have HR := HR2
  have HO := HO2
  clear HC2 HF2 HR2 HO2
  clear hc2 hg2
  go_wp2_with fail
  have HC2 := hide (Cur.drew (w := W3) HC.out)
  have HF2 := hide (FR.drew (w := W3) HF.out)
  have HR2 := hide (FR.drew (w := W3) HR.out)
  have HO2 := hide (HO.out.trans (only_drew W3))
  refine region_tail 7 (by kernel_rfl) (by kernel_rfl) ?_
  clear HC HF HR HO
  generalize W3.drew = W5 at *
  have HC := HC2
  have HF := HF2
  have HR := HR2
  have HO := HO2
  clear HC2 HF2 HR2 HO2
  obtain ⟨f0, f1, f2, f3, f4, f5, f6, f7, f8, f9, f10, ff⟩ := HF.out.cells
  obtain ⟨c0, c1, c2, cf⟩ := HC.out.cells
  simp only [List.take_succ_cons, List.take_zero, List.drop_succ_cons, List.drop_zero]
  repeat (first | go_big_quiet_skip | (go_big_quiet_want; go_big_quiet_op; first | go_big_quiet_on | (apply Exists.intro; refine ⟨hsize_walk (w.heap.size + 1) y0 W5 f0, ?_⟩; go_big_quiet_on)))
  refine wpQuiet_nil ?_
  clear c0 c1 c2 cf f0 f1 f2 f3 f4 f5 f6 f7 f8 f9 f10 ff
  go_wp2_with fail
  refine (takeBytes_err g _ n cap (some ⟨b, off, none⟩) 5 _ W5 HC.out (by omega) (by omega) (by omega) (by omega)).mono ?_
  rintro e U ⟨rfl, hbU⟩
  have HF2 := hide (HF.out.only (Only.of_below (S := [g]) hbU) HNF.out)
  have HR2 := hide (HR.out.only (Only.of_below (S := [g]) hbU) HNR.out)
  have HO2 := hide (HO.out.trans (Only.mono (T := [g, (w.heap.size + 1)]) (Only.of_below (S := [g]) hbU) (by simp)))
  have HC2 := hide (HC.out.below hbU HC.out.lt)
  clear HC HF HR HO
  have HC := HC2
  have HF := HF2
  have HR := HR2
  have HO := HO2
  clear HC2 HF2 HR2 HO2
  clear hbU
  generalize W5.heap.size = K at *
  obtain ⟨f0, f1, f2, f3, f4, f5, f6, f7, f8, f9, f10, ff⟩ := HF.out.cells
  have HF2 := hide (HF.out.set10 (.slice (some ⟨K, 0, none⟩) 0 0))
  have HC2 := hide (HC.out.kept (grown_cell U (w.heap.size + 1) 10 (.slice (some ⟨K, 0, none⟩) 0 0)) (by intro e; cases e; omega))
  have HR2 := hide (HR.out.only (Only.of_some (grown_cell U (w.heap.size + 1) 10 (.slice (some ⟨K, 0, none⟩) 0 0))) (by simp))
  have HO2 := hide (HO.out.trans (only_cell (g := g) 10 (.slice (some ⟨K, 0, none⟩) 0 0)))
  clear HC HF HR HO
  go_wp2_with fail
  generalize hV : U.setCell ⟨w.heap.size + 1, 10, none⟩ (.slice (some ⟨K, 0, none⟩) 0 0) = W6 at *
  clear hV f0 f1 f2 f3 f4 f5 f6 f7 f8 f9 f10 ff
  have HC := HC2
  have HF := HF2
  have HR := HR2
  have HO := HO2
  clear HC2 HF2 HR2 HO2
  cases hh : (bits .and .i64 y4 32768 != 0) with
  | true =>
    have HC2 := hide (Cur.drew (w := W6) HC.out)
    have HF2 := hide (FR.drew (w := W6) HF.out)
    have HR2 := hide (FR.drew (w := W6) HR.out)
    have HO2 := hide (HO.out.trans (only_drew W6))
    refine region_tail 11 (by kernel_rfl) (by kernel_rfl) ?_
    clear HC HF HR HO
    generalize W6.drew = W7 at *
    have HC := HC2
    have HF := HF2
    have HR := HR2
    have HO := HO2
    clear HC2 HF2 HR2 HO2
    obtain ⟨f0, f1, f2, f3, f4, f5, f6, f7, f8, f9, f10, ff⟩ := HF.out.cells
    obtain ⟨c0, c1, c2, cf⟩ := HC.out.cells
    simp only [List.take_succ_cons, List.take_zero, List.drop_succ_cons, List.drop_zero]
    repeat (first | go_big_quiet_skip | (go_big_quiet_want; go_big_quiet_op; first | go_big_quiet_on | (apply Exists.intro; refine ⟨has_lit (w.heap.size + 1) y4 32768 true W7 f4 hh, ?_⟩; go_big_quiet_on) | (apply Exists.intro; refine ⟨hoffset_walk (w.heap.size + 1) y4 W7 f4, ?_⟩; go_big_quiet_on) | (apply Exists.intro; refine ⟨within_walk _ _ _ _ W7 (by omega) (by omega) (by omega), ?_⟩; go_big_quiet_on)))
    refine wpQuiet_nil ?_
    clear c0 c1 c2 cf f0 f1 f2 f3 f4 f5 f6 f7 f8 f9 f10 ff
    go_wp2_with fail
    refine (demand_err g _ _ 5 _ _ W7 HC.out).mono ?_
    rintro e v ⟨rfl, hv⟩
    rw [hv]
    clear hv
    obtain ⟨f0, f1, f2, f3, f4, f5, f6, f7, f8, f9, f10, ff⟩ := HF.out.cells
    obtain ⟨d0, d1, d2, d3, d4, d5, d6, d7, d8, d9, d10, df⟩ := HR.out.cells
    go_wp2_with fail
    exact bodyPost_ret (v := .agg #[.int .i64 y0, .int .i64 y1, .int .i64 y2, .int .i64 y3, .int .i64 y4, .int .i64 y5, .int .i64 y6, .int .i64 y7, .int .i64 y8, .slice ao ko co, .slice (some ⟨K, 0, none⟩) 0 0]) (by simp [results, Tryd.results36, go_sem, d0, d1, d2, d3, d4, d5, d6, d7, d8, d9, d10]) rfl ⟨_, y0, y1, y2, y3, y4, y5, y6, y7, y8, _, _, _, _, rfl, cur_11 HC.out HGR.out, only_new (only_11 HO.out (Nat.le_refl _)) (by intro x hx; simp at hx; omega)⟩
  | false =>
    have HC2 := hide (Cur.drew (w := W6) HC.out)
    have HF2 := hide (FR.drew (w := W6) HF.out)
    have HR2 := hide (FR.drew (w := W6) HR.out)
    have HO2 := hide (HO.out.trans (only_drew W6))
    refine region_tail 11 (by kernel_rfl) (by kernel_rfl) ?_
    clear HC HF HR HO
    generalize W6.drew = W7 at *
    have HC := HC2
    have HF := HF2
    have HR := HR2
    have HO := HO2
    clear HC2 HF2 HR2 HO2
    obtain ⟨f0, f1, f2, f3, f4, f5, f6, f7, f8, f9, f10, ff⟩ := HF.out.cells
    obtain ⟨c0, c1, c2, cf⟩ := HC.out.cells
    simp only [List.take_succ_cons, List.take_zero, List.drop_succ_cons, List.drop_zero]
    repeat (first | go_big_quiet_skip | (go_big_quiet_want; go_big_quiet_op; first | go_big_quiet_on | (apply Exists.intro; refine ⟨has_lit (w.heap.size + 1) y4 32768 false W7 f4 hh, ?_⟩; go_big_quiet_on) | (apply Exists.intro; refine ⟨hoffset_walk (w.heap.size + 1) y4 W7 f4, ?_⟩; go_big_quiet_on) | (apply Exists.intro; refine ⟨within_walk _ _ _ _ W7 (by omega) (by omega) (by omega), ?_⟩; go_big_quiet_on)))
    refine wpQuiet_nil ?_
    clear c0 c1 c2 cf f0 f1 f2 f3 f4 f5 f6 f7 f8 f9 f10 ff
    go_wp2_with fail
    refine (demand_err g _ _ 5 _ _ W7 HC.out).mono ?_
    rintro e v ⟨rfl, hv⟩
    rw [hv]
    clear hv
    obtain ⟨f0, f1, f2, f3, f4, f5, f6, f7, f8, f9, f10, ff⟩ := HF.out.cells
    obtain ⟨d0, d1, d2, d3, d4, d5, d6, d7, d8, d9, d10, df⟩ := HR.out.cells
    go_wp2_with fail
    exact bodyPost_ret (v := .agg #[.int .i64 y0, .int .i64 y1, .int .i64 y2, .int .i64 y3, .int .i64 y4, .int .i64 y5, .int .i64 y6, .int .i64 y7, .int .i64 y8, .slice ao ko co, .slice (some ⟨K, 0, none⟩) 0 0]) (by simp [results, Tryd.results36, go_sem, d0, d1, d2, d3, d4, d5, d6, d7, d8, d9, d10]) rfl ⟨_, y0, y1, y2, y3, y4, y5, y6, y7, y8, _, _, _, _, rfl, cur_11 HC.out HGR.out, only_new (only_11 HO.out (Nat.le_refl _)) (by intro x hx; simp at hx; omega)⟩

set_option maxHeartbeats 8000000 in
theorem takePacket_long (g n cap b off : Nat) (zs : List Int) (w : World) (hc : Cur w g (.slice (some ⟨b, off, none⟩) n cap) 0 .nilIface) (hm : n ≤ 1048576) (y0 y1 y2 y3 y4 y5 y6 y7 y8 : Int) (b0 : 0 ≤ y0) (b1 : y0 ≤ 255) (b2 : 0 ≤ y2) (b3 : y2 ≤ 65535) (b4 : 0 ≤ y4) (b5 : y4 ≤ 65535) (ko : Nat) (LO : List Int) (hkn : 20 + ko ≤ n) (hn : zs.length = n) (ha : Arr w (some ⟨b, off, none⟩) zs) (hcap : n ≤ cap) (hbg : b ≠ g) (h1 : y0 % 16 * 4 ≤ y2) (h2 : y2 ≤ (n : Int)) (hk0 : y0 % 16 * 4 = 20 + (ko : Int)) (kp : Nat) (hkp : y2 - y0 % 16 * 4 = (kp : Int)) (T : Bool) (hT3 : ((!(bits .and .i64 y4 32768 != 0)) && decide (y4 % 8192 * 8 + (kp : Int) ≤ 65535)) = T) (ev : Value) (hev : (if T then Value.nilIface else wErr 1) = ev)
    (hT : ∀ W F, Cur W g (.slice (some ⟨b, off, none⟩) n cap) 0 .nilIface → FR W F 0 0 0 0 0 0 0 0 0 (.slice none 0 0) (.slice none 0 0) → F ≠ g → Below w.heap.size w W → w.heap.size ≤ F → W.heap.size = w.heap.size + 2 → Calls Tryd.prog 24 #[.pointer (some ⟨F, 0, none⟩), .pointer (some ⟨g, 0, none⟩)] W fun e w' => ∃ (ao : Option Addr) (co : Nat), e = .returned (.tuple #[]) ∧ Cur w' g (.slice (some ⟨b, off, none⟩) n cap) (20 + ko) .nilIface ∧ FR w' F y0 y1 y2 y3 y4 y5 y6 y7 y8 (.slice ao ko co) (.slice none 0 0) ∧ OwnB w' (w.heap.size + 2) (.slice ao ko co) LO ∧ Only [g, F] W w') :
    Calls Tryd.prog 36 #[.pointer (some ⟨g, 0, none⟩)] w fun e w' => ∃ (p : Nat) (ao ap : Option Addr) (co cp : Nat), e = .returned (.agg #[.int .i64 y0, .int .i64 y1, .int .i64 y2, .int .i64 y3, .int .i64 y4, .int .i64 y5, .int .i64 y6, .int .i64 y7, .int .i64 y8, .slice ao ko co, .slice ap kp cp]) ∧ Cur w' g (.slice (some ⟨b, off, none⟩) n cap) p ev ∧ OwnB w' (w.heap.size + 2) (.slice ao ko co) LO ∧ OwnB w' (w.heap.size + 2) (.slice ap kp cp) ((zs.drop (20 + ko)).take kp) ∧ (∀ k, (Value.slice ao ko co).ownBlock = some k → (Value.slice ap kp cp).ownBlock ≠ some k) ∧ Only [g] w w' := by
  have HA := hide ha
  have HN := hide hn
  have HKP := hide hkp
  have HT3 := hide hT3
  have HEV := hide hev
  have HKN : Hid (20 + ko + kp ≤ n) := hide (by omega)
  have hblt : b < w.heap.size := by
    obtain ⟨b', o', e, hlt, _⟩ := ha.2 0 (by omega)
    cases e
    exact hlt
  have HAN : Hid (∀ j, j < zs.length → ∃ b' off', (some ⟨b, off, none⟩ : Option Addr) = some ⟨b', off', none⟩ ∧ b' ∉ [g, w.heap.size + 1]) := hide (fun j hj => ⟨b, off, rfl, by simp; omega⟩)
  clear ha hn hkp hT3 hev hk0
  have hgl := hc.lt
  have HT := hide hT
  have HI := hide (tpW_facts w g 0 _ _ hc)
  have HNF : Hid (w.heap.size + 1 ∉ [g]) := hide (by simp; omega)
  have HNR : Hid (w.heap.size ∉ [g]) := hide (by simp; omega)
  have HGR : Hid (some g ≠ some w.heap.size) := hide (by intro e; cases e; omega)
  clear hc hT
  go_enter Tryd.func36, Tryd.ntmps36
  go_wp2_with fail
  generalize hW : tpW w = W at *
  unfold tpW at hW
  rw [hW]
  clear hW
  refine (HT.out W (w.heap.size + 1) HI.out.1 HI.out.2.2.1 (by omega) HI.out.2.2.2.1 (by omega) HI.out.2.2.2.2).mono ?_
  rintro e W1 ⟨ao, co, rfl, hc1, hf1, hw1, ho1⟩
  have HC := hide hc1
  have HF := hide hf1
  have HR := hide (HI.out.2.1.only ho1 (by simp; omega))
  have HO : Hid (Only [g, w.heap.size + 1] w W1) := hide ((Only.of_below HI.out.2.2.2.1).trans ho1)
  have HOW := hide hw1
  clear HT HI hc1 hf1 ho1 hw1
  go_wp2_with fail
  have HC2 := hide (Cur.drew (w := W1) HC.out)
  have HF2 := hide (FR.drew (w := W1) HF.out)
  have HR2 := hide (FR.drew (w := W1) HR.out)
  have HO2 := hide (HO.out.trans (only_drew W1))
  have HOW2 := hide (OwnB.drew (w := W1) HOW.out)
  refine region_tail 18 (by kernel_rfl) (by kernel_rfl) ?_
  clear HC HF HR HO HOW
  generalize W1.drew = W2 at *
  have HC := HC2
  have HF := HF2
  have HR := HR2
  have HO := HO2
  have HOW := HOW2
  clear HC2 HF2 HR2 HO2 HOW2
  obtain ⟨f0, f1, f2, f3, f4, f5, f6, f7, f8, f9, f10, ff⟩ := HF.out.cells
  obtain ⟨c0, c1, c2, cf⟩ := HC.out.cells
  simp only [List.take_succ_cons, List.take_zero, List.drop_succ_cons, List.drop_zero]
  repeat (first | go_big_quiet_skip | (go_big_quiet_want; go_big_quiet_op; first | go_big_quiet_on | (apply Exists.intro; refine ⟨hsize_walk (w.heap.size + 1) y0 W2 f0, ?_⟩; go_big_quiet_on)))
  refine wpQuiet_nil ?_
  clear c0 c1 c2 cf f0 f1 f2 f3 f4 f5 f6 f7 f8 f9 f10 ff
  go_wp2_with fail
  refine (demand_yes g _ _ 5 W2 HC.out).mono ?_
  rintro e v ⟨rfl, hv⟩
  rw [hv]
  clear hv
  have hkp := HKP.out
  go_wp2_with fail
  have HC2 := hide (Cur.drew (w := W2) HC.out)
  have HF2 := hide (FR.drew (w := W2) HF.out)
  have HR2 := hide (FR.drew (w := W2) HR.out)
  have HO2 := hide (HO.out.trans (only_drew W2))
  have HOW2 := hide (OwnB.drew (w := W2) HOW.out)
  refine region_tail 7 (by kernel_rfl) (by kernel_rfl) ?_
  clear HC HF HR HO HOW
  generalize W2.drew = W5 at *
  have HC := HC2
  have HF := HF2
  have HR := HR2
  have HO := HO2
  have HOW := HOW2
  clear HC2 HF2 HR2 HO2 HOW2
  obtain ⟨f0, f1, f2, f3, f4, f5, f6, f7, f8, f9, f10, ff⟩ := HF.out.cells
  obtain ⟨c0, c1, c2, cf⟩ := HC.out.cells
  simp only [List.take_succ_cons, List.take_zero, List.drop_succ_cons, List.drop_zero]
  repeat (first | go_big_quiet_skip | (go_big_quiet_want; go_big_quiet_op; first | go_big_quiet_on | (apply Exists.intro; refine ⟨hsize_walk (w.heap.size + 1) y0 W5 f0, ?_⟩; go_big_quiet_on)))
  refine wpQuiet_nil ?_
  clear c0 c1 c2 cf f0 f1 f2 f3 f4 f5 f6 f7 f8 f9 f10 ff
  go_wp2_with fail
  clear hkp
  refine (takeBytes_any g (20 + ko) n cap b off kp zs W5 HC.out (by omega) HKN.out hcap HN.out (arr_only HA.out HO.out HAN.out) hbg).mono ?_
  rintro e U ⟨vv, rfl, hO, hc2, hg2⟩
  have HAP := hide (apart_of HOW.out hO (Nat.le_refl _))
  have hz5 : w.heap.size + 2 ≤ W5.heap.size := by have := HF.out.lt; omega
  have HPW := hide (hO.mono hz5)
  have HOW2 := hide (HOW.out.only (Only.of_some hg2) (fun k hk => by have := HOW.out.ge k hk; simp; omega))
  clear hO HOW
  have HOW := HOW2
  clear HOW2
  obtain ⟨ap, cp, rfl, _⟩ := own_slice HPW.out
  have HLP : Hid (((zs.drop (20 + ko)).take kp).length = kp) := hide (by rw [List.length_take, List.length_drop, HN.out]; have := HKN.out; omega)
  rw [HLP.out] at HPW HAP ⊢
  have HF2 := hide (HF.out.only (Only.of_some hg2) HNF.out)
  have HR2 := hide (HR.out.only (Only.of_some hg2) HNR.out)
  have HO2 := hide (HO.out.trans (Only.mono (T := [g, (w.heap.size + 1)]) (Only.of_some hg2) (by simp)))
  have HC2 := hide (hc2)
  clear HC HF HR HO
  have HC := HC2
  have HF := HF2
  have HR := HR2
  have HO := HO2
  clear HC2 HF2 HR2 HO2
  clear hc2 hg2 hz5
  obtain ⟨f0, f1, f2, f3, f4, f5, f6, f7, f8, f9, f10, ff⟩ := HF.out.cells
  have HF2 := hide (HF.out.set10 (.slice ap kp cp))
  have HC2 := hide (HC.out.kept (grown_cell U (w.heap.size + 1) 10 (.slice ap kp cp)) (by intro e; cases e; omega))
  have HR2 := hide (HR.out.only (Only.of_some (grown_cell U (w.heap.size + 1) 10 (.slice ap kp cp))) (by simp))
  have HO2 := hide (HO.out.trans (only_cell (g := g) 10 (.slice ap kp cp)))
  have HOW2 := hide (OwnB.setBelow HOW.out (a := ⟨w.heap.size + 1, 10, none⟩) (by show w.heap.size + 1 < w.heap.size + 2; omega) (.slice ap kp cp))
  have HPW2 := hide (OwnB.setBelow HPW.out (a := ⟨w.heap.size + 1, 10, none⟩) (by show w.heap.size + 1 < w.heap.size + 2; omega) (.slice ap kp cp))
  clear HC HF HR HO HOW HPW
  go_wp2_with fail
  generalize hV : U.setCell ⟨w.heap.size + 1, 10, none⟩ (.slice ap kp cp) = W6 at *
  clear hV f0 f1 f2 f3 f4 f5 f6 f7 f8 f9 f10 ff
  have HC := HC2
  have HF := HF2
  have HR := HR2
  have HO := HO2
  have HOW := HOW2
  have HPW := HPW2
  clear HC2 HF2 HR2 HO2 HOW2 HPW2
  cases hh : (bits .and .i64 y4 32768 != 0) with
  | true =>
    have HT4 : Hid (false = T) := hide (by have h := HT3.out; rw [hh] at h; simpa using h)
    have HC2 := hide (Cur.drew (w := W6) HC.out)
    have HF2 := hide (FR.drew (w := W6) HF.out)
    have HR2 := hide (FR.drew (w := W6) HR.out)
    have HO2 := hide (HO.out.trans (only_drew W6))
    have HOW2 := hide (OwnB.drew (w := W6) HOW.out)
    have HPW2 := hide (OwnB.drew (w := W6) HPW.out)
    refine region_tail 11 (by kernel_rfl) (by kernel_rfl) ?_
    clear HC HF HR HO HOW HPW
    generalize W6.drew = W7 at *
    have HC := HC2
    have HF := HF2
    have HR := HR2
    have HO := HO2
    have HOW := HOW2
    have HPW := HPW2
    clear HC2 HF2 HR2 HO2 HOW2 HPW2
    obtain ⟨f0, f1, f2, f3, f4, f5, f6, f7, f8, f9, f10, ff⟩ := HF.out.cells
    obtain ⟨c0, c1, c2, cf⟩ := HC.out.cells
    simp only [List.take_succ_cons, List.take_zero, List.drop_succ_cons, List.drop_zero]
    repeat (first | go_big_quiet_skip | (go_big_quiet_want; go_big_quiet_op; first | go_big_quiet_on | (apply Exists.intro; refine ⟨has_lit (w.heap.size + 1) y4 32768 true W7 f4 hh, ?_⟩; go_big_quiet_on) | (apply Exists.intro; refine ⟨hoffset_walk (w.heap.size + 1) y4 W7 f4, ?_⟩; go_big_quiet_on) | (apply Exists.intro; refine ⟨within_walk _ _ _ _ W7 (by have := HKN.out; omega) (by omega) (by omega), ?_⟩; go_big_quiet_on)))
    refine wpQuiet_nil ?_
    clear c0 c1 c2 cf f0 f1 f2 f3 f4 f5 f6 f7 f8 f9 f10 ff
    go_wp2_with fail
    have cd := demand_if g _ _ 1 T W7 HC.out
    rw [HEV.out, ← HT4.out] at cd
    have CD := hide cd
    clear cd
    refine CD.out.mono ?_
    rintro e W8 ⟨rfl, hc2, hg2⟩
    have HOW2 := hide (HOW.out.only (Only.of_some hg2) (fun k hk => by have := HOW.out.ge k hk; simp; omega))
    have HPW2 := hide (HPW.out.only (Only.of_some hg2) (fun k hk => by have := HPW.out.ge k hk; simp; omega))
    have HF2 := hide (HF.out.only (Only.of_some hg2) HNF.out)
    have HR2 := hide (HR.out.only (Only.of_some hg2) HNR.out)
    have HO2 := hide (HO.out.trans (Only.mono (T := [g, (w.heap.size + 1)]) (Only.of_some hg2) (by simp)))
    have HC2 := hide (hc2)
    clear HC HF HR HO
    have HC := HC2
    have HF := HF2
    have HR := HR2
    have HO := HO2
    clear HC2 HF2 HR2 HO2
    clear hc2 hg2 HOW HPW CD
    obtain ⟨f0, f1, f2, f3, f4, f5, f6, f7, f8, f9, f10, ff⟩ := HF.out.cells
    obtain ⟨d0, d1, d2, d3, d4, d5, d6, d7, d8, d9, d10, df⟩ := HR.out.cells
    go_wp2_with fail
    exact bodyPost_ret (v := .agg #[.int .i64 y0, .int .i64 y1, .int .i64 y2, .int .i64 y3, .int .i64 y4, .int .i64 y5, .int .i64 y6, .int .i64 y7, .int .i64 y8, .slice ao ko co, .slice ap kp cp]) (by simp [results, Tryd.results36, go_sem, d0, d1, d2, d3, d4, d5, d6, d7, d8, d9, d10]) rfl ⟨_, ao, ap, co, cp, rfl, cur_11 HC.out HGR.out, ownb_11 HOW2.out (by omega), ownb_11 HPW2.out (by omega), HAP.out, only_new (only_11 HO.out (Nat.le_refl _)) (by intro x hx; simp at hx; omega)⟩
  | false =>
    have HT4 : Hid (decide (y4 % 8192 * 8 + (kp : Int) ≤ 65535) = T) := hide (by have h := HT3.out; rw [hh] at h; simpa using h)
    have HC2 := hide (Cur.drew (w := W6) HC.out)
    have HF2 := hide (FR.drew (w := W6) HF.out)
    have HR2 := hide (FR.drew (w := W6) HR.out)
    have HO2 := hide (HO.out.trans (only_drew W6))
    have HOW2 := hide (OwnB.drew (w := W6) HOW.out)
    have HPW2 := hide (OwnB.drew (w := W6) HPW.out)
    refine region_tail 11 (by kernel_rfl) (by kernel_rfl) ?_
    clear HC HF HR HO HOW HPW
    generalize W6.drew = W7 at *
    have HC := HC2
    have HF := HF2
    have HR := HR2
    have HO := HO2
    have HOW := HOW2
    have HPW := HPW2
    clear HC2 HF2 HR2 HO2 HOW2 HPW2
    obtain ⟨f0, f1, f2, f3, f4, f5, f6, f7, f8, f9, f10, ff⟩ := HF.out.cells
    obtain ⟨c0, c1, c2, cf⟩ := HC.out.cells
    simp only [List.take_succ_cons, List.take_zero, List.drop_succ_cons, List.drop_zero]
    repeat (first | go_big_quiet_skip | (go_big_quiet_want; go_big_quiet_op; first | go_big_quiet_on | (apply Exists.intro; refine ⟨has_lit (w.heap.size + 1) y4 32768 false W7 f4 hh, ?_⟩; go_big_quiet_on) | (apply Exists.intro; refine ⟨hoffset_walk (w.heap.size + 1) y4 W7 f4, ?_⟩; go_big_quiet_on) | (apply Exists.intro; refine ⟨within_walk _ _ _ _ W7 (by have := HKN.out; omega) (by omega) (by omega), ?_⟩; go_big_quiet_on)))
    refine wpQuiet_nil ?_
    clear c0 c1 c2 cf f0 f1 f2 f3 f4 f5 f6 f7 f8 f9 f10 ff
    go_wp2_with fail
    have cd := demand_if g _ _ 1 T W7 HC.out
    rw [HEV.out, ← HT4.out] at cd
    have CD := hide cd
    clear cd
    refine CD.out.mono ?_
    rintro e W8 ⟨rfl, hc2, hg2⟩
    have HOW2 := hide (HOW.out.only (Only.of_some hg2) (fun k hk => by have := HOW.out.ge k hk; simp; omega))
    have HPW2 := hide (HPW.out.only (Only.of_some hg2) (fun k hk => by have := HPW.out.ge k hk; simp; omega))
    have HF2 := hide (HF.out.only (Only.of_some hg2) HNF.out)
    have HR2 := hide (HR.out.only (Only.of_some hg2) HNR.out)
    have HO2 := hide (HO.out.trans (Only.mono (T := [g, (w.heap.size + 1)]) (Only.of_some hg2) (by simp)))
    have HC2 := hide (hc2)
    clear HC HF HR HO
    have HC := HC2
    have HF := HF2
    have HR := HR2
    have HO := HO2
    clear HC2 HF2 HR2 HO2
    clear hc2 hg2 HOW HPW CD
    obtain ⟨f0, f1, f2, f3, f4, f5, f6, f7, f8, f9, f10, ff⟩ := HF.out.cells
    obtain ⟨d0, d1, d2, d3, d4, d5, d6, d7, d8, d9, d10, df⟩ := HR.out.cells
    go_wp2_with fail
    exact bodyPost_ret (v := .agg #[.int .i64 y0, .int .i64 y1, .int .i64 y2, .int .i64 y3, .int .i64 y4, .int .i64 y5, .int .i64 y6, .int .i64 y7, .int .i64 y8, .slice ao ko co, .slice ap kp cp]) (by simp [results, Tryd.results36, go_sem, d0, d1, d2, d3, d4, d5, d6, d7, d8, d9, d10]) rfl ⟨_, ao, ap, co, cp, rfl, cur_11 HC.out HGR.out, ownb_11 HOW2.out (by omega), ownb_11 HPW2.out (by omega), HAP.out, only_new (only_11 HO.out (Nat.le_refl _)) (by intro x hx; simp at hx; omega)⟩
end Go.Proofs.YtakoagfeiolkjaaDoor
