/-
Contracts of functions of this seat.
-/
import Derived.Test.YtlkbmdkidpfioaaRows
import Derived.WalkKit
import Derived.ProofKit
import Derived.OpenShut
import Derived.Deep.QuietTactic
import Derived.Below
import Derived.Laws.Externs
import Derived.OwnWalk
import Derived.BigQuiet
import Derived.ArgAppend
import Derived.RegionTactic
import Derived.ChangeAlike
import Derived.Lib.QuietBelow
import Derived.Laws.OwnMore
import Derived.Lib.MinMax
import Derived.Deep.RegionHeld3
import Derived.Deep.RegionWith
import Derived.Deep.DeepAppendRoom
import Derived.Deep.Cut
import Derived.Laws.MakeOwn
import Derived.Deep.RegionLawGrows
import Derived.Deep.AppendLies
import Derived.StillTailTactics
import Derived.Test.YtlkbmdkidpfioaaPd
namespace Go.Proofs.Ytlkbmdkidpfioaa
open Go.ChangeShapes Go.WideShapes Go.ChangeAt Go.RowKit
set_option linter.unusedVariables false
set_option maxRecDepth 100000
set_option maxRecDepth 100000
set_option maxHeartbeats 4000000 in
theorem implSplit_no {u x : Int} {os : List PieceM} (k : Int) (hno : ¬ bOK u x os) : BoardSplitP 17 (fun _ => True) u x os k 0 0 [] 1 := by
  intro a n cap w hn ha hc hm _
  obtain ⟨hb2, hX, hR⟩ := two_boxes w #[.int .i64 u, .int .i64 x, .slice a n cap] #[.int .i64 0, .int .i64 0, .slice none 0 0] 29 29
  have HB2 := hide hb2; have HX := hide hX; have HR := hide hR
  have k0 := hX.cell 0 _ rfl; have k1 := hX.cell 1 _ rfl; have k2 := hX.cell 2 _ rfl
  have CV := hide (newPieceList_no u x a n cap os ((w.alloc (.cells #[.int .i64 u, .int .i64 x, .slice a n cap] 29)).alloc (.cells #[.int .i64 0, .int .i64 0, .slice none 0 0] 29)) hn (ha.below hb2 (Nat.le_refl _)) hm hno)
  clear hn ha hno hb2 hX hR
  go_enter Try.func17, Try.ntmps17
  go_wp2_with fail
  refine CV.out.mono ?_
  rintro e w1 ⟨rfl, hw1⟩
  have HR1 := hide (HR.out.next hw1)
  have HB1 : Hid (Below w.heap.size w w1) := hide (HB2.out.trans (hw1.mono HB2.out.size))
  have r0 := HR1.out.cell 0 _ rfl; have r1 := HR1.out.cell 1 _ rfl; have r2 := HR1.out.cell 2 _ rfl; have rf := HR1.out.frozen
  clear hw1 CV k0 k1 k2 HB2 HX HR
  go_wp2_with fail
  exact bodyPost_ret (v := .tuple #[.agg #[.int .i64 0, .int .i64 0, .slice none 0 0], .int .i64 1]) (by simp [results, Try.results17, go_sem, r0, r1, r2]) rfl ⟨_, rfl, ownP_nil _ _, below_gr HB1.out (gr_set (gr_set (gr_set (grown_reflp _ _) 0 _) 1 _) 2 _) HB1.out.size (Nat.le_succ _)⟩
set_option maxHeartbeats 8000000 in
theorem implSplit_form {u x : Int} {os : List PieceM} (k : Int) (hok : bOK u x os) (hf : ¬ (1 ≤ k ∧ k ≤ 65535)) : BoardSplitP 17 (fun _ => True) u x os k 0 0 [] 1 := by
  intro a n cap w hn ha hc hm _
  obtain ⟨hb2, hX, hR⟩ := two_boxes w #[.int .i64 u, .int .i64 x, .slice a n cap] #[.int .i64 0, .int .i64 0, .slice none 0 0] 29 29
  have HB2 := hide hb2; have HX := hide hX; have HR := hide hR
  have k0 := hX.cell 0 _ rfl; have k1 := hX.cell 1 _ rfl; have k2 := hX.cell 2 _ rfl
  have CV := hide (newPieceList_yes u x a n cap os ((w.alloc (.cells #[.int .i64 u, .int .i64 x, .slice a n cap] 29)).alloc (.cells #[.int .i64 0, .int .i64 0, .slice none 0 0] 29)) hn (ha.below hb2 (Nat.le_refl _)) hm hok)
  have HOK := hide hok
  have HN := hide hn
  have hV : w.heap.size + 1 < ((w.alloc (.cells #[.int .i64 u, .int .i64 x, .slice a n cap] 29)).alloc (.cells #[.int .i64 0, .int .i64 0, .slice none 0 0] 29)).heap.size := hR.lt
  clear hn ha hok hb2 hX hR
  have HPS := hide (fun W => isPieceSize_walk k W)
  rw [show inB k 1 65535 = false from decide_eq_false hf] at HPS
  clear hf
  go_enter Try.func17, Try.ntmps17
  go_wp2_with fail
  generalize (w.alloc (.cells #[.int .i64 u, .int .i64 x, .slice a n cap] 29)).alloc (.cells #[.int .i64 0, .int .i64 0, .slice none 0 0] 29) = V at *
  refine CV.out.mono ?_
  rintro e w1 ⟨L, ns, rfl, hD, hM, hw1⟩
  have HR1 := hide (HR.out.next hw1)
  have HB1 : Hid (Below w.heap.size w w1) := hide (HB2.out.trans (hw1.mono HB2.out.size))
  have r0 := HR1.out.cell 0 _ rfl; have r1 := HR1.out.cell 1 _ rfl; have r2 := HR1.out.cell 2 _ rfl; have rf := HR1.out.frozen
  clear hw1 CV k0 k1 k2 HB2 HX HR hD hM
  go_wp2_with (go_at_call 25; with_reducible refine (HPS.out _).mono ?_; rintro e w2 ⟨rfl, rfl⟩)
  exact bodyPost_ret (v := .tuple #[.agg #[.int .i64 0, .int .i64 0, .slice none 0 0], .int .i64 1]) (by simp [results, Try.results17, go_sem, r0, r1, r2]) rfl ⟨_, rfl, ownP_nil _ _, below_gr HB1.out (gr_set (gr_set (gr_set (grown_reflp _ _) 0 _) 1 _) 2 _) HB1.out.size (Nat.le_succ _)⟩
set_option maxHeartbeats 8000000 in
theorem implSplit_full {u x : Int} {os : List PieceM} (k : Int) (hok : bOK u x os) (hs : 1 ≤ k ∧ k ≤ 65535) (hf : 4096 < cntS k os) : BoardSplitP 17 (fun _ => True) u x os k 0 0 [] 18 := by
  intro a n cap w hn ha hc hm _
  obtain ⟨hb2, hX, hR⟩ := two_boxes w #[.int .i64 u, .int .i64 x, .slice a n cap] #[.int .i64 0, .int .i64 0, .slice none 0 0] 29 29
  have HB2 := hide hb2; have HX := hide hX; have HR := hide hR
  have k0 := hX.cell 0 _ rfl; have k1 := hX.cell 1 _ rfl; have k2 := hX.cell 2 _ rfl
  have CV := hide (newPieceList_yes u x a n cap os ((w.alloc (.cells #[.int .i64 u, .int .i64 x, .slice a n cap] 29)).alloc (.cells #[.int .i64 0, .int .i64 0, .slice none 0 0] 29)) hn (ha.below hb2 (Nat.le_refl _)) hm hok)
  have HOK := hide hok
  have HN := hide hn
  have hV : w.heap.size + 1 < ((w.alloc (.cells #[.int .i64 u, .int .i64 x, .slice a n cap] 29)).alloc (.cells #[.int .i64 0, .int .i64 0, .slice none 0 0] 29)).heap.size := hR.lt
  clear hn ha hok hb2 hX hR
  have HPS := hide (fun W => isPieceSize_walk k W)
  rw [inB_iff.2 hs] at HPS
  have HK := hide hs
  have HF := hide hf
  clear hs hf
  go_enter Try.func17, Try.ntmps17
  go_wp2_with fail
  generalize (w.alloc (.cells #[.int .i64 u, .int .i64 x, .slice a n cap] 29)).alloc (.cells #[.int .i64 0, .int .i64 0, .slice none 0 0] 29) = V at *
  refine CV.out.mono ?_
  rintro e w1 ⟨L, ns, rfl, hD, hM, hw1⟩
  have CS := hide (split_full _ L u x k ns w1 hD (by rw [hM]; exact HOK.out) HK.out (by rw [hM]; exact HF.out))
  have HR1 := hide (HR.out.next hw1)
  have HB1 : Hid (Below w.heap.size w w1) := hide (HB2.out.trans (hw1.mono HB2.out.size))
  have r0 := HR1.out.cell 0 _ rfl; have r1 := HR1.out.cell 1 _ rfl; have r2 := HR1.out.cell 2 _ rfl; have rf := HR1.out.frozen
  clear hw1 CV k0 k1 k2 HB2 HX HR hD hM
  go_wp2_with (first | (go_at_call 25; with_reducible refine (HPS.out _).mono ?_; rintro e w2 ⟨rfl, rfl⟩) | (go_at_call 36; with_reducible refine CS.out.mono ?_; rintro e w2 ⟨rfl, hw2⟩; have HR2 := hide (HR1.out.next hw2); have HB2 := hide (HB1.out.trans (hw2.mono HB1.out.size)); have r0 := HR2.out.cell 0 _ rfl; have r1 := HR2.out.cell 1 _ rfl; have r2 := HR2.out.cell 2 _ rfl; have rf := HR2.out.frozen))
  exact bodyPost_ret (v := .tuple #[.agg #[.int .i64 0, .int .i64 0, .slice none 0 0], .int .i64 18]) (by simp [results, Try.results17, go_sem, r0, r1, r2]) rfl ⟨_, rfl, ownP_nil _ _, below_gr HB2.out (gr_set (gr_set (gr_set (grown_reflp _ _) 0 _) 1 _) 2 _) HB2.out.size (Nat.le_succ _)⟩
set_option maxHeartbeats 8000000 in
theorem implSplit_yes {u x : Int} {os : List PieceM} (k : Int) (hok : bOK u x os) (hs : 1 ≤ k ∧ k ≤ 65535) (hf : ¬ 4096 < cntS k os) : BoardSplitP 17 (fun _ => True) u x os k u x (splitL k os) 0 := by
  intro a n cap w hn ha hc hm _
  obtain ⟨hb2, hX, hR⟩ := two_boxes w #[.int .i64 u, .int .i64 x, .slice a n cap] #[.int .i64 0, .int .i64 0, .slice none 0 0] 29 29
  have HB2 := hide hb2; have HX := hide hX; have HR := hide hR
  have k0 := hX.cell 0 _ rfl; have k1 := hX.cell 1 _ rfl; have k2 := hX.cell 2 _ rfl
  have CV := hide (newPieceList_yes u x a n cap os ((w.alloc (.cells #[.int .i64 u, .int .i64 x, .slice a n cap] 29)).alloc (.cells #[.int .i64 0, .int .i64 0, .slice none 0 0] 29)) hn (ha.below hb2 (Nat.le_refl _)) hm hok)
  have HOK := hide hok
  have HN := hide hn
  have hV : w.heap.size + 1 < ((w.alloc (.cells #[.int .i64 u, .int .i64 x, .slice a n cap] 29)).alloc (.cells #[.int .i64 0, .int .i64 0, .slice none 0 0] 29)).heap.size := hR.lt
  have HLL : Hid ((splitL k os).length ≤ 1048576) := hide (by have h1 := split_len hs.1 os (fun o ho => (bOK_piece hok ho).2.1); omega)
  clear hn ha hok hb2 hX hR
  have HPS := hide (fun W => isPieceSize_walk k W)
  rw [inB_iff.2 hs] at HPS
  have HK := hide hs
  have HF := hide hf
  clear hs hf
  go_enter Try.func17, Try.ntmps17
  go_wp2_with fail
  generalize (w.alloc (.cells #[.int .i64 u, .int .i64 x, .slice a n cap] 29)).alloc (.cells #[.int .i64 0, .int .i64 0, .slice none 0 0] 29) = V at *
  refine CV.out.mono ?_
  rintro e w1 ⟨L, ns, rfl, hD, hM, hw1⟩
  have CS := hide (split_yes _ L u x k ns w1 hD hw1.size (by rw [hM]; exact HOK.out) HK.out (by rw [hM]; exact Int.not_lt.2 HF.out))
  rw [hM] at CS
  have HR1 := hide (HR.out.next hw1)
  have HB1 : Hid (Below w.heap.size w w1) := hide (HB2.out.trans (hw1.mono HB2.out.size))
  have hV1 := hw1.size
  clear hw1 CV k0 k1 k2 HB2 HX HR hD hM
  go_wp2_with (first | (go_at_call 25; with_reducible refine (HPS.out _).mono ?_; rintro e w2 ⟨rfl, rfl⟩))
  refine CS.out.mono ?_
  rintro e w2 ⟨ns2, rfl, hD2, hM2, hw2⟩
  have hlen : ns2.length ≤ 1048576 := by have := congrArg List.length hM2; rw [List.length_map] at this; rw [this]; exact HLL.out
  have CB := hide (board_walk _ L u x ns2 w2 hD2 hlen)
  rw [hM2] at CB
  have HR2 := hide (HR1.out.below hw2 hV)
  have HB3 : Hid (Below w.heap.size w w2) := hide (HB1.out.trans (hw2.mono (by omega)))
  have hV2 := hw2.size
  clear hD2 hM2 hw2 hlen CS HR1 HB1
  go_wp2_with fail
  refine CB.out.mono ?_
  rintro e w3 ⟨v, rfl, hO, hw3⟩
  obtain ⟨bz, nz, rfl, _⟩ := arrP_own hO
  have HR3 := hide (HR2.out.next hw3)
  have HO := hide (ownP_mono hO (C := w.heap.size + 2) (by omega))
  have HB4 : Hid (Below w.heap.size w w3) := hide (HB3.out.trans (hw3.mono HB3.out.size))
  have r0 := HR3.out.cell 0 _ rfl; have r1 := HR3.out.cell 1 _ rfl; have r2 := HR3.out.cell 2 _ rfl; have rf := HR3.out.frozen
  clear hO hw3 CB HB3 HR2
  obtain ⟨ln, hln⟩ : ∃ ln, ln = (splitL k os).length := ⟨_, rfl⟩
  rw [← hln]
  go_wp2_with fail
  subst hln
  exact bodyPost_ret (v := .tuple #[.agg #[.int .i64 u, .int .i64 x, .slice bz (splitL k os).length nz], .int .i64 0]) (by simp [results, Try.results17, go_sem, r0, r1, r2]) rfl ⟨_, rfl, ownP_mono (ownP_gr HO.out (gr_set (gr_set (gr_set (grown_reflp _ _) 0 _) 1 _) 2 _) (Nat.lt_succ_self _)) (by omega), below_gr HB4.out (gr_set (gr_set (gr_set (grown_reflp _ _) 0 _) 1 _) 2 _) HB4.out.size (Nat.le_succ _)⟩
set_option maxRecDepth 100000
set_option maxHeartbeats 16000000 in
theorem specSplit_form {u x : Int} {os : List PieceM} (k : Int) (hok : bOK u x os) (hf : ¬ (1 ≤ k ∧ k ≤ 65535)) : BoardSplitP 16 (fun _ => True) u x os k 0 0 [] 1 := by
  intro a n cap w hn ha hc hm _
  obtain ⟨hb2, hX, hR⟩ := two_boxes w #[.int .i64 u, .int .i64 x, .slice a n cap] #[.int .i64 0, .int .i64 0, .slice none 0 0] 29 29
  have HB2 := hide hb2; have HX := hide hX; have HR := hide hR
  have k0 := hX.cell 0 _ rfl; have k1 := hX.cell 1 _ rfl; have k2 := hX.cell 2 _ rfl
  have CV := hide (l15OK_walk u x a n cap os ((w.alloc (.cells #[.int .i64 u, .int .i64 x, .slice a n cap] 29)).alloc (.cells #[.int .i64 0, .int .i64 0, .slice none 0 0] 29)) hn (ha.below hb2 (Nat.le_refl _)) hm)
  rw [bokB_yes hok] at CV
  have HOK := hide hok
  have HN := hide hn
  have HA := hide (ha.below hb2 (Nat.le_refl _))
  have hV : w.heap.size + 1 < ((w.alloc (.cells #[.int .i64 u, .int .i64 x, .slice a n cap] 29)).alloc (.cells #[.int .i64 0, .int .i64 0, .slice none 0 0] 29)).heap.size := hR.lt
  have h1 : inB k 1 65535 = false := decide_eq_false hf
  clear hn ha hok hb2 hX hR hf
  go_enter Try.func16, Try.ntmps16
  go_wp2_with fail
  refine CV.out.mono ?_
  rintro e w1 ⟨rfl, hw1⟩
  have HR1 := hide (HR.out.next hw1)
  have HB1 : Hid (Below w.heap.size w w1) := hide (HB2.out.trans (hw1.mono HB2.out.size))
  have r0 := HR1.out.cell 0 _ rfl; have r1 := HR1.out.cell 1 _ rfl; have r2 := HR1.out.cell 2 _ rfl; have rf := HR1.out.frozen
  clear hw1 CV k0 k1 k2 HB2 HX HR
  go_wp2_with (go_at_call 23; refine (In_walk _ _ _ _).mono ?_; rintro e w9 ⟨rfl, hq⟩; rw [hq]; clear hq)
  exact bodyPost_ret (v := .tuple #[.agg #[.int .i64 0, .int .i64 0, .slice none 0 0], .int .i64 1]) (by simp [results, Try.results16, go_sem, r0, r1, r2]) rfl ⟨_, rfl, ownP_nil _ _, below_gr HB1.out (gr_set (gr_set (gr_set (grown_reflp _ _) 0 _) 1 _) 2 _) HB1.out.size (Nat.le_succ _)⟩

set_option maxHeartbeats 16000000 in
theorem specSplit_full {u x : Int} {os : List PieceM} (k : Int) (hok : bOK u x os) (hs : 1 ≤ k ∧ k ≤ 65535) (hf : 4096 < cntS k os) : BoardSplitP 16 (fun _ => True) u x os k 0 0 [] 18 := by
  intro a n cap w hn ha hc hm _
  obtain ⟨hb2, hX, hR⟩ := two_boxes w #[.int .i64 u, .int .i64 x, .slice a n cap] #[.int .i64 0, .int .i64 0, .slice none 0 0] 29 29
  have HB2 := hide hb2; have HX := hide hX; have HR := hide hR
  have k0 := hX.cell 0 _ rfl; have k1 := hX.cell 1 _ rfl; have k2 := hX.cell 2 _ rfl
  have CV := hide (l15OK_walk u x a n cap os ((w.alloc (.cells #[.int .i64 u, .int .i64 x, .slice a n cap] 29)).alloc (.cells #[.int .i64 0, .int .i64 0, .slice none 0 0] 29)) hn (ha.below hb2 (Nat.le_refl _)) hm)
  rw [bokB_yes hok] at CV
  have HOK := hide hok
  have HN := hide hn
  have HA := hide (ha.below hb2 (Nat.le_refl _))
  have hV : w.heap.size + 1 < ((w.alloc (.cells #[.int .i64 u, .int .i64 x, .slice a n cap] 29)).alloc (.cells #[.int .i64 0, .int .i64 0, .slice none 0 0] 29)).heap.size := hR.lt
  have h1 : inB k 1 65535 = true := inB_iff.2 hs
  obtain ⟨kk1, kk2⟩ := hs
  have hk0 : k ≠ 0 := by omega
  have hkb : (k == 0) = false := beq_eq_false_iff_ne.2 hk0
  have HSB : Hid (∀ i, 0 ≤ cntS k (os.take i) ∧ cntS k (os.take i) ≤ 1099511627776) := hide (fun i => by
    have h := hok
    rw [← List.take_append_drop i os] at h
    obtain ⟨m, h1, h2⟩ := chk_app _ _ _ _ h.2.2.2
    have h3 := cnt_le kk1 _ _ _ h1
    have h4 := chk_le _ _ _ h2
    have := h.1; have := h.2.1
    omega)
  clear hn ha hok hb2 hX hR
  go_enter Try.func16, Try.ntmps16
  go_wp2_with fail
  refine CV.out.mono ?_
  rintro e w1 ⟨rfl, hw1⟩
  have HR1 := hide (HR.out.next hw1)
  have HX1 := hide (HX.out.next hw1)
  have HB1 : Hid (Below w.heap.size w w1) := hide (HB2.out.trans (hw1.mono HB2.out.size))
  have HA1 := hide (HA.out.below hw1 (Nat.le_refl _))
  have hV1 : w.heap.size + 1 < w1.heap.size := HR1.out.lt
  clear hw1 CV k0 k1 k2 HB2 HX HR HA
  have k0 := HX1.out.cell 0 _ rfl; have k1 := HX1.out.cell 1 _ rfl; have k2 := HX1.out.cell 2 _ rfl
  go_upto_region 4 with (go_at_call 23; refine (In_walk _ _ _ _).mono ?_; rintro e w9 ⟨rfl, hq⟩; rw [hq]; clear hq)
  have hal := (Below.refl w1.heap.size w1).alloc (Nat.le_refl _) (.cells #[.int .i64 u, .int .i64 x, .slice none 0 0] 29)
  have HO2 : Hid (HoldV (w1.alloc (.cells #[.int .i64 u, .int .i64 x, .slice none 0 0] 29)) w1.heap.size _ 29) := hide (hv_new w1 _ _)
  have HX2 := hide (HX1.out.next hal); have HR2 := hide (HR1.out.next hal); have HB2 := hide (HB1.out.trans (hal.mono HB1.out.size))
  have HA2 := hide (HA1.out.below hal (Nat.le_refl _))
  clear hal HX1 HR1 HB1 HA1 k0 k1 k2
  generalize w1.alloc (.cells #[.int .i64 u, .int .i64 x, .slice none 0 0] 29) = V2 at *
  generalize w1.heap.size = O at *
  go_wp2_with fail
  go_loopw [7, 8] (fun s t w2 => ∃ i : Nat, i ≤ n ∧ t = .int .i64 i ∧ s = .int .i64 (cntS k (os.take i)) ∧ Hid (HoldV w2 w.heap.size #[.int .i64 u, .int .i64 x, .slice a n cap] 29) ∧ Hid (HoldV w2 (w.heap.size + 1) #[.int .i64 0, .int .i64 0, .slice none 0 0] 29) ∧ Hid (HoldV w2 O #[.int .i64 u, .int .i64 x, .slice none 0 0] 29) ∧ Hid (Below V2.heap.size V2 w2)) (fun _ t _ => n - (intOf t).toNat)
  case atStart => exact ⟨0, Nat.zero_le _, rfl, rfl, HX2, HR2, HO2, hide (Below.refl _ _)⟩
  case round =>
    obtain ⟨i, hi, rfl, rfl, HX, HR, HO, HB⟩ := hrel
    have k2 := HX.out.cell 2 _ rfl
    by_cases hlt : i < n
    · have hio : i < os.length := by rw [HN.out]; exact hlt
      obtain ⟨b, off, rfl, hbs, c0, c1, _, _, _, _⟩ := piece_cells (HA2.out.below HB.out (Nat.le_refl _)) hio
      have HT : Hid (cntS k (os.take (i + 1)) = cntS k (os.take i) + (os[i].f1 - os[i].f0 + k - 1) / k) := hide (by rw [take_snoc hio, cntS_app]; simp [cntS])
      obtain ⟨s0, s1⟩ := HSB.out i
      obtain ⟨q0, q1, q2⟩ : 0 ≤ os[i].f0 ∧ os[i].f0 < os[i].f1 ∧ os[i].f1 ≤ 1099511627776 := bOK_piece HOK.out (List.getElem_mem hio)
      generalize cntS k (os.take i) = s at *
      generalize os[i].f0 = x0 at *
      generalize os[i].f1 = x1 at *
      have e0 : 0 ≤ (x1 - x0 + k - 1) / k := Int.ediv_nonneg (by omega) (by omega)
      have e1 : (x1 - x0 + k - 1) / k ≤ 1099511693312 := by
        have := Int.ediv_le_self (a := x1 - x0 + k - 1) k (by omega)
        omega
      have w1' : IntKind.i64.wrap (x1 - x0) = x1 - x0 := by rw [IntKind.wrap_i64]; omega
      have w2' : IntKind.i64.wrap (x1 - x0 + k) = x1 - x0 + k := by rw [IntKind.wrap_i64]; omega
      have w3' : IntKind.i64.wrap (x1 - x0 + k - 1) = x1 - x0 + k - 1 := by rw [IntKind.wrap_i64]; omega
      have w4' : (x1 - x0 + k - 1).tdiv k = (x1 - x0 + k - 1) / k := Int.tdiv_eq_ediv_of_nonneg (by omega)
      have w5' : IntKind.i64.wrap ((x1 - x0 + k - 1) / k) = (x1 - x0 + k - 1) / k := by rw [IntKind.wrap_i64]; omega
      have w6' : IntKind.i64.wrap (s + (x1 - x0 + k - 1) / k) = s + (x1 - x0 + k - 1) / k := by rw [IntKind.wrap_i64]; omega
      go_wp2_with fail
      go_quiet (fail)
      go_wp2_with fail
      exact ⟨⟨i + 1, by omega, by go_num, by rw [HT.out], hide (HX.out.next (below_drewN (Below.refl _ _) nq)), hide (HR.out.next (below_drewN (Below.refl _ _) nq)), hide (HO.out.next (below_drewN (Below.refl _ _) nq)), hide (HB.out.trans ((below_drewN (Below.refl _ _) nq : Below wr.heap.size wr _).mono HB.out.size))⟩, by simp [intOf]; omega⟩
    · have hin : i = n := by omega
      have HF : Hid (cntS k (os.take i) = cntS k os) := hide (by rw [List.take_of_length_le (by rw [HN.out, hin]; exact Nat.le_refl _)])
      rw [← HF.out] at hf
      have r0 := HR.out.cell 0 _ rfl; have r1 := HR.out.cell 1 _ rfl; have r2 := HR.out.cell 2 _ rfl; have rf := HR.out.frozen
      have HB9 := hide (HB2.out.trans (HB.out.mono HB2.out.size))
      generalize cntS k (os.take i) = s at *
      go_wp2_with fail
      exact bodyPost_ret (v := .tuple #[.agg #[.int .i64 0, .int .i64 0, .slice none 0 0], .int .i64 18]) (by simp [results, Try.results16, go_sem, r0, r1, r2]) rfl ⟨_, rfl, ownP_nil _ _, below_gr HB9.out (gr_set (gr_set (gr_set (grown_reflp _ _) 0 _) 1 _) 2 _) HB9.out.size (Nat.le_succ _)⟩

set_option maxHeartbeats 16000000 in
theorem specSplit_yes {u x : Int} {os : List PieceM} (k : Int) (hok : bOK u x os) (hs : 1 ≤ k ∧ k ≤ 65535) (hf : ¬ 4096 < cntS k os) : BoardSplitP 16 (fun _ => True) u x os k u x (splitL k os) 0 := by
  intro a n cap w hn ha hc hm _
  obtain ⟨hb2, hX, hR⟩ := two_boxes w #[.int .i64 u, .int .i64 x, .slice a n cap] #[.int .i64 0, .int .i64 0, .slice none 0 0] 29 29
  have HB2 := hide hb2; have HX := hide hX; have HR := hide hR
  have k0 := hX.cell 0 _ rfl; have k1 := hX.cell 1 _ rfl; have k2 := hX.cell 2 _ rfl
  have CV := hide (l15OK_walk u x a n cap os ((w.alloc (.cells #[.int .i64 u, .int .i64 x, .slice a n cap] 29)).alloc (.cells #[.int .i64 0, .int .i64 0, .slice none 0 0] 29)) hn (ha.below hb2 (Nat.le_refl _)) hm)
  rw [bokB_yes hok] at CV
  have HOK := hide hok
  have HN := hide hn
  have HA0 := hide ha
  have HA := hide (ha.below hb2 (Nat.le_refl _))
  have hV : w.heap.size + 1 < ((w.alloc (.cells #[.int .i64 u, .int .i64 x, .slice a n cap] 29)).alloc (.cells #[.int .i64 0, .int .i64 0, .slice none 0 0] 29)).heap.size := hR.lt
  have h1 : inB k 1 65535 = true := inB_iff.2 hs
  obtain ⟨kk1, kk2⟩ := hs
  have hk0 : k ≠ 0 := by omega
  have hkb : (k == 0) = false := beq_eq_false_iff_ne.2 hk0
  have HSB : Hid (∀ i, 0 ≤ cntS k (os.take i) ∧ cntS k (os.take i) ≤ 1099511627776) := hide (fun i => by
    have h := hok
    rw [← List.take_append_drop i os] at h
    obtain ⟨m, h1, h2⟩ := chk_app _ _ _ _ h.2.2.2
    have h3 := cnt_le kk1 _ _ _ h1
    have h4 := chk_le _ _ _ h2
    have := h.1; have := h.2.1
    omega)
  obtain ⟨ip, hi, hz0, hz1, hz2⟩ := info_parts Try.infoPiece
  have HI := hide hi; have HI0 := hide hz0; have HI1 := hide hz1; have HI2 := hide hz2
  have HLS : Hid ((splitL k os).length ≤ 4096) := hide (by
    have h1 := split_len kk1 os (fun o ho => (bOK_piece hok ho).2.1)
    omega)
  clear hi hz0 hz1 hz2
  clear hn ha hok hb2 hX hR
  go_enter Try.func16, Try.ntmps16
  go_wp2_with fail
  refine CV.out.mono ?_
  rintro e w1 ⟨rfl, hw1⟩
  have HR1 := hide (HR.out.next hw1)
  have HX1 := hide (HX.out.next hw1)
  have HB1 : Hid (Below w.heap.size w w1) := hide (HB2.out.trans (hw1.mono HB2.out.size))
  have HA1 := hide (HA.out.below hw1 (Nat.le_refl _))
  have hV1 : w.heap.size + 1 < w1.heap.size := HR1.out.lt
  clear hw1 CV k0 k1 k2 HB2 HX HR HA
  have k0 := HX1.out.cell 0 _ rfl; have k1 := HX1.out.cell 1 _ rfl; have k2 := HX1.out.cell 2 _ rfl
  go_upto_region 4 with (go_at_call 23; refine (In_walk _ _ _ _).mono ?_; rintro e w9 ⟨rfl, hq⟩; rw [hq]; clear hq)
  have hal := (Below.refl w1.heap.size w1).alloc (Nat.le_refl _) (.cells #[.int .i64 u, .int .i64 x, .slice none 0 0] 29)
  have HO2 : Hid (HoldV (w1.alloc (.cells #[.int .i64 u, .int .i64 x, .slice none 0 0] 29)) w1.heap.size _ 29) := hide (hv_new w1 _ _)
  have HX2 := hide (HX1.out.next hal); have HR2 := hide (HR1.out.next hal); have HB2 := hide (HB1.out.trans (hal.mono HB1.out.size))
  have HA2 := hide (HA1.out.below hal (Nat.le_refl _))
  clear hal HX1 HR1 HB1 HA1 k0 k1 k2
  generalize w1.alloc (.cells #[.int .i64 u, .int .i64 x, .slice none 0 0] 29) = V2 at *
  generalize w1.heap.size = O at *
  go_wp2_with fail
  go_loopw [7, 8] (fun s t w2 => ∃ i : Nat, i ≤ n ∧ t = .int .i64 i ∧ s = .int .i64 (cntS k (os.take i)) ∧ Hid (HoldV w2 w.heap.size #[.int .i64 u, .int .i64 x, .slice a n cap] 29) ∧ Hid (HoldV w2 (w.heap.size + 1) #[.int .i64 0, .int .i64 0, .slice none 0 0] 29) ∧ Hid (HoldV w2 O #[.int .i64 u, .int .i64 x, .slice none 0 0] 29) ∧ Hid (Below V2.heap.size V2 w2)) (fun _ t _ => n - (intOf t).toNat)
  case atStart => exact ⟨0, Nat.zero_le _, rfl, rfl, HX2, HR2, HO2, hide (Below.refl _ _)⟩
  case round =>
    obtain ⟨i, hi, rfl, rfl, HX, HR, HO, HB⟩ := hrel
    have k2 := HX.out.cell 2 _ rfl
    by_cases hlt : i < n
    · have hio : i < os.length := by rw [HN.out]; exact hlt
      obtain ⟨b, off, rfl, hbs, c0, c1, _, _, _, _⟩ := piece_cells (HA2.out.below HB.out (Nat.le_refl _)) hio
      have HT : Hid (cntS k (os.take (i + 1)) = cntS k (os.take i) + (os[i].f1 - os[i].f0 + k - 1) / k) := hide (by rw [take_snoc hio, cntS_app]; simp [cntS])
      obtain ⟨s0, s1⟩ := HSB.out i
      obtain ⟨q0, q1, q2⟩ : 0 ≤ os[i].f0 ∧ os[i].f0 < os[i].f1 ∧ os[i].f1 ≤ 1099511627776 := bOK_piece HOK.out (List.getElem_mem hio)
      generalize cntS k (os.take i) = s at *
      generalize os[i].f0 = x0 at *
      generalize os[i].f1 = x1 at *
      have e0 : 0 ≤ (x1 - x0 + k - 1) / k := Int.ediv_nonneg (by omega) (by omega)
      have e1 : (x1 - x0 + k - 1) / k ≤ 1099511693312 := by
        have := Int.ediv_le_self (a := x1 - x0 + k - 1) k (by omega)
        omega
      have w1' : IntKind.i64.wrap (x1 - x0) = x1 - x0 := by rw [IntKind.wrap_i64]; omega
      have w2' : IntKind.i64.wrap (x1 - x0 + k) = x1 - x0 + k := by rw [IntKind.wrap_i64]; omega
      have w3' : IntKind.i64.wrap (x1 - x0 + k - 1) = x1 - x0 + k - 1 := by rw [IntKind.wrap_i64]; omega
      have w4' : (x1 - x0 + k - 1).tdiv k = (x1 - x0 + k - 1) / k := Int.tdiv_eq_ediv_of_nonneg (by omega)
      have w5' : IntKind.i64.wrap ((x1 - x0 + k - 1) / k) = (x1 - x0 + k - 1) / k := by rw [IntKind.wrap_i64]; omega
      have w6' : IntKind.i64.wrap (s + (x1 - x0 + k - 1) / k) = s + (x1 - x0 + k - 1) / k := by rw [IntKind.wrap_i64]; omega
      go_wp2_with fail
      go_quiet (fail)
      go_wp2_with fail
      exact ⟨⟨i + 1, by omega, by go_num, by rw [HT.out], hide (HX.out.next (below_drewN (Below.refl _ _) nq)), hide (HR.out.next (below_drewN (Below.refl _ _) nq)), hide (HO.out.next (below_drewN (Below.refl _ _) nq)), hide (HB.out.trans ((below_drewN (Below.refl _ _) nq : Below wr.heap.size wr _).mono HB.out.size))⟩, by simp [intOf]; omega⟩
    · have hin : i = n := by omega
      have HF : Hid (cntS k (os.take i) = cntS k os) := hide (by rw [List.take_of_length_le (by rw [HN.out, hin]; exact Nat.le_refl _)])
      have hf2 : ¬ 4096 < cntS k (os.take i) := by rw [HF.out]; exact Int.not_lt.2 hf
      generalize cntS k (os.take i) = sv at *
      have HX4 := hide HX.out; have HR4 := hide HR.out; have HO4 := hide HO.out; have HB4 := hide (HB2.out.trans (HB.out.mono HB2.out.size))
      have hOl : O < wr.heap.size := HO.out.lt
      have HA4 := hide (HA2.out.below HB.out (Nat.le_refl _))
      clear HX HR HO HB HF hf
      go_wp2_with fail
      go_loopw [9] (fun t w2 => ∃ (j m : Nat) (v : Value), j ≤ n ∧ t = .int .i64 j ∧ Hid (RowP w2 (O + 1) v m (splitL k (os.take j))) ∧ Hid ((splitL k (os.take j)).length = m) ∧ Hid (HoldV w2 w.heap.size #[.int .i64 u, .int .i64 x, .slice a n cap] 29) ∧ Hid (HoldV w2 (w.heap.size + 1) #[.int .i64 0, .int .i64 0, .slice none 0 0] 29) ∧ Hid (HoldV w2 O #[.int .i64 u, .int .i64 x, v] 29) ∧ Hid (Below w.heap.size w w2)) (fun t _ => n - (intOf t).toNat)
      case atStart => exact ⟨0, 0, .slice none 0 0, Nat.zero_le _, rfl, hide ⟨rfl, .inl ⟨rfl, rfl⟩⟩, hide rfl, HX4, HR4, HO4, HB4⟩
      case round =>
        rename World => wk
        obtain ⟨j, m, v, hj, rfl, HV, HM, HX, HR, HO, HB⟩ := hrel
        obtain ⟨bz, nz, rfl⟩ := HV.out.form
        have k2 := HX.out.cell 2 _ rfl
        by_cases hlt2 : j < n
        · have hjo : j < os.length := by rw [HN.out]; exact hlt2
          have HNA : Hid (ArrP wk a (os.flatMap valPiece)) := hide (HA0.out.below HB.out (Nat.le_refl _))
          obtain ⟨b, off, hab, hbs, c0, c1, c2, c3, c4, c5⟩ := piece_cells HNA.out hjo
          subst hab
          obtain ⟨q0, q1, q2⟩ : 0 ≤ os[j].f0 ∧ os[j].f0 < os[j].f1 ∧ os[j].f1 ≤ 1099511627776 := bOK_piece HOK.out (List.getElem_mem hjo)
          have HT : Hid (splitL k (os.take (j + 1)) = splitL k (os.take j) ++ cutL k os[j]) := hide (by rw [take_snoc hjo]; unfold splitL; rw [List.flatMap_append]; simp)
          have HTL : Hid ((splitL k (os.take (j + 1))).length ≤ 4096) := hide (by
            have h1 := HLS.out
            rw [← List.take_append_drop (j + 1) os] at h1
            unfold splitL at h1 ⊢
            rw [List.flatMap_append, List.length_append] at h1
            omega)
          generalize os[j] = qq at *
          obtain ⟨x0, x1, x2, x3, x4, x5⟩ := qq
          try dsimp only at c0 c1 c2 c3 c4 c5 q0 q1 q2
          have hal := (Below.refl wk.heap.size wk).alloc (Nat.le_refl _) (.cells #[.int .i64 x0, .int .i64 x1, .int .i64 x2, .int .i64 x3, .bool x4, .bool x5] 48)
          have HPB := hide (hv_new wk #[.int .i64 x0, .int .i64 x1, .int .i64 x2, .int .i64 x3, .bool x4, .bool x5] 48)
          have hOk : O < wk.heap.size := HO.out.lt
          have hXk : w.heap.size < wk.heap.size := HX.out.lt
          have HV2 := hide (HV.out.next hal); have HX2' := hide (HX.out.next hal); have HR2' := hide (HR.out.next hal); have HO2' := hide (HO.out.next hal); have HB2' := hide (HB.out.trans (hal.mono HB.out.size))
          have r0 := HPB.out.cell 0 _ rfl; have r1 := HPB.out.cell 1 _ rfl; have r2 := HPB.out.cell 2 _ rfl; have r3 := HPB.out.cell 3 _ rfl; have r4 := HPB.out.cell 4 _ rfl; have r5 := HPB.out.cell 5 _ rfl
          have HOB : Hid (∀ b, (Value.slice bz m nz).ownBlock = some b → b ≠ wk.heap.size) := hide (fun b hb e => by have := ownsAt.lt (ownsAt.of_row HV.out) b hb; omega)
          clear hal HV HX HR HO HB
          go_wp2_with fail
          clear c0 c1 c2 c3 c4 c5 r0 r1 r2 r3 r4 r5 k2
          generalize wk.alloc (.cells #[.int .i64 x0, .int .i64 x1, .int .i64 x2, .int .i64 x3, .bool x4, .bool x5] 48) = V3 at *
          obtain ⟨PB, hPB⟩ : ∃ PB, PB = wk.heap.size := ⟨_, rfl⟩
          rw [← hPB] at HPB HOB hOk hXk ⊢
          clear hPB
          go_loopw [11] (fun t w2 => ∃ (at_ : Int) (dn : List PieceM) (v : Value) (m2 : Nat), t = .int .i64 at_ ∧ x0 ≤ at_ ∧ at_ ≤ 1099511693312 ∧ Hid ((at_ < x1 ∧ dn ++ cutL k ⟨at_, x1, x2, x3, x4, x5⟩ = cutL k ⟨x0, x1, x2, x3, x4, x5⟩) ∨ (x1 ≤ at_ ∧ dn = cutL k ⟨x0, x1, x2, x3, x4, x5⟩)) ∧ Hid (RowP w2 (O + 1) v m2 (splitL k (os.take j) ++ dn)) ∧ Hid ((splitL k (os.take j) ++ dn).length = m2) ∧ Hid (∀ b, v.ownBlock = some b → b ≠ PB) ∧ Hid (HoldV w2 w.heap.size #[.int .i64 u, .int .i64 x, .slice (some ⟨b, off, none⟩) n cap] 29) ∧ Hid (HoldV w2 (w.heap.size + 1) #[.int .i64 0, .int .i64 0, .slice none 0 0] 29) ∧ Hid (HoldV w2 O #[.int .i64 u, .int .i64 x, v] 29) ∧ Hid (HoldV w2 PB #[.int .i64 x0, .int .i64 x1, .int .i64 x2, .int .i64 x3, .bool x4, .bool x5] 48) ∧ Hid (Below w.heap.size w w2)) (fun t _ => (x1 - intOf t).toNat)
          case atStart => exact ⟨x0, [], .slice bz m nz, m, rfl, Int.le_refl _, by omega, hide (.inl ⟨q1, rfl⟩), hide (by rw [List.append_nil]; exact HV2.out), hide (by rw [List.append_nil]; exact HM.out), HOB, HX2', HR2', HO2', HPB, HB2'⟩
          case round =>
            rename World => wi
            obtain ⟨at_, dn, v, m2, rfl, ha0, ha1, HC, HV, HM2, HOB, HX, HR, HO, HPB, HB⟩ := hrel
            obtain ⟨bq, nq2, rfl⟩ := HV.out.form
            have r0 := HPB.out.cell 0 _ rfl; have r1 := HPB.out.cell 1 _ rfl; have r2 := HPB.out.cell 2 _ rfl; have r3 := HPB.out.cell 3 _ rfl; have r4 := HPB.out.cell 4 _ rfl; have r5 := HPB.out.cell 5 _ rfl
            have o2 := HO.out.cell 2 _ rfl
            by_cases hin2 : at_ < x1
            · have hcut : dn ++ cutL k (⟨at_, x1, x2, x3, x4, x5⟩ : PieceM) = cutL k ⟨x0, x1, x2, x3, x4, x5⟩ := by
                rcases HC.out with h | h
                · exact h.2
                · exact absurd hin2 (Int.not_lt.2 h.1)
              obtain ⟨tt, htt⟩ : ∃ tt, tt = min (at_ + k) x1 := ⟨_, rfl⟩
              have HTT := hide htt
              have HCN : Hid ((at_ + k < x1 ∧ (dn ++ [(⟨at_, tt, x2, x3, x4, x5⟩ : PieceM)]) ++ cutL k ⟨at_ + k, x1, x2, x3, x4, x5⟩ = cutL k ⟨x0, x1, x2, x3, x4, x5⟩) ∨ (x1 ≤ at_ + k ∧ dn ++ [(⟨at_, tt, x2, x3, x4, x5⟩ : PieceM)] = cutL k ⟨x0, x1, x2, x3, x4, x5⟩)) := hide (by
                by_cases hb : k < x1 - at_
                · left
                  refine ⟨by omega, ?_⟩
                  have hbig : cutL k (⟨at_, x1, x2, x3, x4, x5⟩ : PieceM) = ⟨at_, at_ + k, x2, x3, x4, x5⟩ :: cutL k ⟨at_ + k, x1, x2, x3, x4, x5⟩ := cut_big kk1 hb
                  rw [← hcut, hbig, show tt = at_ + k by omega, List.append_assoc]
                  rfl
                · right
                  refine ⟨by omega, ?_⟩
                  have hsm : cutL k (⟨at_, x1, x2, x3, x4, x5⟩ : PieceM) = [⟨at_, x1, x2, x3, x4, x5⟩] := cut_small hb
                  rw [← hcut, hsm, show tt = x1 by omega])
              have hm4 : m2 + 1 ≤ 4096 := by
                have h1 := HTL.out
                rw [HT.out, ← hcut] at h1
                have h2 := cutL_ne k (⟨at_, x1, x2, x3, x4, x5⟩ : PieceM)
                have h3 := HM2.out
                simp only [List.length_append] at h1 h3
                omega
              clear hcut HC htt
              have hal := (Below.refl wi.heap.size wi).alloc (Nat.le_refl _) (.cells #[.int .i64 at_, .int .i64 tt, .int .i64 x2, .int .i64 x3, .bool x4, .bool x5] 48)
              have HQB : Hid (HoldV (wi.alloc (.cells #[.int .i64 at_, .int .i64 tt, .int .i64 x2, .int .i64 x3, .bool x4, .bool x5] 48)) wi.heap.size _ 48) := hide (hv_new wi #[.int .i64 at_, .int .i64 tt, .int .i64 x2, .int .i64 x3, .bool x4, .bool x5] 48)
              have hOi : O < wi.heap.size := HO.out.lt
              have hPi : PB < wi.heap.size := HPB.out.lt
              have HV3 := hide (HV.out.next hal); have HX3' := hide (HX.out.next hal); have HR3' := hide (HR.out.next hal); have HO3' := hide (HO.out.next hal); have HP3' := hide (HPB.out.next hal); have HB3' := hide (HB.out.trans (hal.mono HB.out.size))
              clear hal HV HX HR HO HPB HB o2
              go_upto_region 21 with (go_at_call 35; refine (l14Min_walk _ _ _).mono ?_; rintro e w9 ⟨rfl, hq⟩; rw [hq, ← HTT.out]; clear hq)
              generalize wi.alloc (.cells #[.int .i64 at_, .int .i64 tt, .int .i64 x2, .int .i64 x3, .bool x4, .bool x5] 48) = wj at *
              obtain ⟨QB, hQB⟩ : ∃ QB, QB = wi.heap.size := ⟨_, rfl⟩
              rw [← hQB] at HQB hOi hPi ⊢
              clear hQB r0 r1 r2 r3 r4 r5
              have q0' := HQB.out.cell 0 (.int .i64 at_) rfl; have q1' := HQB.out.cell 1 (.int .i64 tt) rfl; have q2' := HQB.out.cell 2 (.int .i64 x2) rfl; have q3' := HQB.out.cell 3 (.int .i64 x3) rfl; have q4' := HQB.out.cell 4 (.bool x4) rfl; have q5' := HQB.out.cell 5 (.bool x5) rfl
              have o2 := HO3'.out.cell 2 _ rfl; have of := HO3'.out.frozen
              have hOj : O < wj.heap.size := HO3'.out.lt
              have hal := (Below.refl wj.heap.size wj).alloc (Nat.le_refl _) (.cells #[.int .i64 at_, .int .i64 tt, .int .i64 x2, .int .i64 x3, .bool x4, .bool x5] 48)
              have HPL : Hid (HoldV (wj.alloc (.cells #[.int .i64 at_, .int .i64 tt, .int .i64 x2, .int .i64 x3, .bool x4, .bool x5] 48)) wj.heap.size _ 48) := hide (hv_new wj #[.int .i64 at_, .int .i64 tt, .int .i64 x2, .int .i64 x3, .bool x4, .bool x5] 48)
              have HV4 := hide (HV3.out.next hal); have HX4' := hide (HX3'.out.next hal); have HR4' := hide (HR3'.out.next hal); have HO4' := hide (HO3'.out.next hal); have HP4' := hide (HP3'.out.next hal); have HB4' := hide (HB3'.out.trans (hal.mono HB3'.out.size))
              have o2' := HO4'.out.cell 2 _ rfl; have of' := HO4'.out.frozen
              have hsa : (wj.alloc (.cells #[.int .i64 at_, .int .i64 tt, .int .i64 x2, .int .i64 x3, .bool x4, .bool x5] 48)).heap.size = wj.heap.size + 1 := World.size_alloc _ _
              have hPj : PB < wj.heap.size := HP3'.out.lt
              clear hal HV3 HX3' HR3' HO3' HP3' HB3'
              go_wp2_with (at_builtin; refine wpList_append_lies _ rfl _ _ 27 rfl (O + 1) 48 ip _ 6 40 Try.underlying27 HI.out HI0.out HI1.out HI2.out rfl (by decide) (.slice bq m2 nq2) m2 ((splitL k (os.take j) ++ dn).flatMap valPiece) rfl HV4.out ⟨wj.heap.size, 0, none⟩ 1 1 (valPiece ⟨at_, tt, x2, x3, x4, x5⟩) rfl rfl (pc_cells HPL.out) (val_one1 _) (by omega) (by unfold maxLen; omega) (by omega) (by omega) _ rfl ?_)
              intro gt nt w3 hown' hgrow hlies _
              have HO5 : Hid (RowP w3 (O + 1) (.slice (some ⟨gt, 0, none⟩) (m2 + 1) nt) (m2 + 1) (splitL k (os.take j) ++ (dn ++ [(⟨at_, tt, x2, x3, x4, x5⟩ : PieceM)]))) := hide (by unfold RowP; rw [← List.append_assoc, List.flatMap_append]; simpa using hown')
              have HGT : Hid (gt ≠ PB) := hide (by
                rcases hlies with h | h
                · exact HOB.out gt h
                · omega)
              have hkeep : ∀ b, (b ≤ O ∨ b = PB) → b < wj.heap.size → w3.heap[b]? = (wj.alloc (.cells #[.int .i64 at_, .int .i64 tt, .int .i64 x2, .int .i64 x3, .bool x4, .bool x5] 48)).heap[b]? := fun b hb hlt => hgrow.block b (by omega) (fun e => by
                rcases hb with hb | hb
                · have h1 := ownsAt.lt (ownsAt.of_row HV4.out) b e.symm
                  omega
                · exact HOB.out b e.symm hb)
              have HX5 : Hid (HoldV w3 w.heap.size _ 29) := hide ((hkeep _ (by omega) (by omega)).trans HX4'.out)
              have HR5 : Hid (HoldV w3 (w.heap.size + 1) _ 29) := hide ((hkeep _ (by omega) (by omega)).trans HR4'.out)
              have HOO5 : Hid (HoldV w3 O _ 29) := hide ((hkeep _ (by omega) (by omega)).trans HO4'.out)
              have HP5 : Hid (HoldV w3 PB _ 48) := hide ((hkeep _ (by omega) (by omega)).trans HP4'.out)
              have HB5 : Hid (Below w.heap.size w w3) := hide (HB4'.out.trans ⟨hgrow.os, hgrow.tape, hgrow.output, hgrow.size, fun b hb => hkeep b (by omega) (by omega)⟩)
              have HM5 : Hid ((splitL k (os.take j) ++ (dn ++ [(⟨at_, tt, x2, x3, x4, x5⟩ : PieceM)])).length = m2 + 1) := hide (by rw [← List.append_assoc, List.length_append, HM2.out]; rfl)
              have hg6 : w3.grownBy (w3.setCell ⟨O, 2, none⟩ (.slice (some ⟨gt, 0, none⟩) (m2 + 1) nt)) (some O) := gr_set (grown_reflp _ _) 2 _
              have HX6 := hide (hv_gr HX5.out hg6 (by omega)); have HR6 := hide (hv_gr HR5.out hg6 (by omega)); have HP6 := hide (hv_gr HP5.out hg6 (by omega))
              have HO6 := hide (hv_set HOO5.out 2 (.slice (some ⟨gt, 0, none⟩) (m2 + 1) nt))
              have HV6 := hide (row_gr HO5.out hg6 (by omega))
              have HB6 := hide (below_gr HB5.out hg6 HB5.out.size (by omega))
              have o3 := HOO5.out.cell 2 _ rfl; have o3f := HOO5.out.frozen
              have HOB6 : Hid (∀ b, (Value.slice (some ⟨gt, 0, none⟩) (m2 + 1) nt).ownBlock = some b → b ≠ PB) := hide (fun b hb => by cases hb; exact HGT.out)
              clear hkeep hgrow hown' hlies hg6 HO5 HX5 HR5 HOO5 HP5 HB5 HV4 HX4' HR4' HO4' HP4' HB4' HPL hsa o2 o2' of of' q0' q1' q2' q3' q4' q5' HQB
              go_wp2_with fail
              exact ⟨⟨at_ + k, _, _, m2 + 1, rfl, by omega, by omega, HCN, HV6, HM5, HOB6, HX6, HR6, HO6, HP6, HB6⟩, by simp [intOf]; omega⟩
            · have hdn : dn = cutL k (⟨x0, x1, x2, x3, x4, x5⟩ : PieceM) := by
                rcases HC.out with h | h
                · exact absurd h.1 hin2
                · exact h.2
              go_wp2_with fail
              exact ⟨⟨j + 1, m2, _, by omega, by go_num, hide (by rw [HT.out, ← hdn]; exact HV.out), hide (by rw [HT.out, ← hdn]; exact HM2.out), HX, HR, HO, HB⟩, by simp [intOf]; omega⟩
        · have hjn : j = n := by omega
          have HFL : Hid (RowP wk (O + 1) (.slice bz m nz) m (splitL k os)) := hide (by have h := HV.out; rw [List.take_of_length_le (by rw [HN.out, hjn]; exact Nat.le_refl _)] at h; exact h)
          have HFM : Hid ((splitL k os).length = m) := hide (by have h := HM.out; rw [List.take_of_length_le (by rw [HN.out, hjn]; exact Nat.le_refl _)] at h; exact h)
          have o0 := HO.out.cell 0 _ rfl; have o1 := HO.out.cell 1 _ rfl; have o2 := HO.out.cell 2 _ rfl
          have r0 := HR.out.cell 0 _ rfl; have r1 := HR.out.cell 1 _ rfl; have r2 := HR.out.cell 2 _ rfl; have rf := HR.out.frozen
          have hOw : w.heap.size + 1 < O + 1 := by omega
          clear HV HM HX HR HO
          go_wp2_with fail
          exact bodyPost_ret (v := .tuple #[.agg #[.int .i64 u, .int .i64 x, .slice bz m nz], .int .i64 0]) (by simp [results, Try.results16, go_sem, r0, r1, r2]) rfl ⟨_, rfl, ownP_mono (row_own (row_gr HFL.out (gr_set (gr_set (gr_set (grown_reflp _ _) 0 _) 1 _) 2 _) (by omega)) HFM.out) (by omega), below_gr HB.out (gr_set (gr_set (gr_set (grown_reflp _ _) 0 _) 1 _) 2 _) HB.out.size (Nat.le_succ _)⟩
set_option maxRecDepth 100000
/-- What is wanted of BoardPipe. -/
def BoardPipeP (f : Nat) (Pre : World → Prop) (x0_0 : Int) (x0_1 : Int) (z0_0 : List PieceM) (C0 : Int) : Prop :=
  ∀ (a0_0 : Option Addr) (n0_0 c0_0 : Nat) (W : World), z0_0.length = n0_0 → ArrP W a0_0 (z0_0.flatMap valPiece) → n0_0 ≤ c0_0 → n0_0 ≤ 1048576 → Pre W → Calls Try.prog f #[.agg #[.int .i64 x0_0, .int .i64 x0_1, .slice a0_0 n0_0 c0_0]] W fun e w' => e = .returned (.int .i64 C0) ∧ Below W.heap.size W w'
set_option maxRecDepth 100000
set_option maxHeartbeats 4000000 in
theorem implPipe_no {u x : Int} {os : List PieceM} (hno : ¬ bOK u x os) : BoardPipeP 7 (fun _ => True) u x os (-1) := by
  intro a n cap w hn ha hc hm _
  have HB0 := hide (BoxV.start w #[.int .i64 u, .int .i64 x, .slice a n cap] 29)
  have k0 := HB0.out.cell 0 _ rfl; have k1 := HB0.out.cell 1 _ rfl; have k2 := HB0.out.cell 2 _ rfl
  have CV := hide (newPieceList_no u x a n cap os (w.alloc (.cells #[.int .i64 u, .int .i64 x, .slice a n cap] 29)) hn (ha.below HB0.out.1 (Nat.le_refl _)) hm hno)
  clear hn ha hno
  go_enter Try.func7, Try.ntmps7
  go_wp2_with fail
  refine CV.out.mono ?_
  rintro e w1 ⟨rfl, hw1⟩
  go_wp2_with fail
  go_ret
  exact ⟨rfl, (HB0.out.next hw1).1⟩
set_option maxHeartbeats 4000000 in
theorem implPipe_yes {u x : Int} {os : List PieceM} (hok : bOK u x os) : BoardPipeP 7 (fun _ => True) u x os (pipeS os) := by
  intro a n cap w hn ha hc hm _
  have HB0 := hide (BoxV.start w #[.int .i64 u, .int .i64 x, .slice a n cap] 29)
  have k0 := HB0.out.cell 0 _ rfl; have k1 := HB0.out.cell 1 _ rfl; have k2 := HB0.out.cell 2 _ rfl
  have CV := hide (newPieceList_yes u x a n cap os (w.alloc (.cells #[.int .i64 u, .int .i64 x, .slice a n cap] 29)) hn (ha.below HB0.out.1 (Nat.le_refl _)) hm hok)
  have HOK := hide hok
  clear hn ha hok
  go_enter Try.func7, Try.ntmps7
  go_wp2_with fail
  refine CV.out.mono ?_
  rintro e w1 ⟨L, ns, rfl, hD, hM, hw1⟩
  have CW := hide (onTheWay_walk _ L u x ns w1 hD (by rw [hM]; exact HOK.out))
  rw [hM] at CW
  have HB1 := hide (HB0.out.next hw1)
  clear hD hM hw1 CV k0 k1 k2 HB0
  go_wp2_with fail
  refine CW.out.mono ?_
  rintro e w2 ⟨rfl, hw2⟩
  go_wp2_with fail
  go_ret
  exact ⟨rfl, (HB1.out.next hw2).1⟩
set_option maxHeartbeats 4000000 in
theorem specPipe_no {u x : Int} {os : List PieceM} (hno : ¬ bOK u x os) : BoardPipeP 6 (fun _ => True) u x os (-1) := by
  intro a n cap w hn ha hc hm _
  have HB0 := hide (BoxV.start w #[.int .i64 u, .int .i64 x, .slice a n cap] 29)
  have k0 := HB0.out.cell 0 _ rfl; have k1 := HB0.out.cell 1 _ rfl; have k2 := HB0.out.cell 2 _ rfl
  have CV := hide (l15OK_walk u x a n cap os (w.alloc (.cells #[.int .i64 u, .int .i64 x, .slice a n cap] 29)) hn (ha.below HB0.out.1 (Nat.le_refl _)) hm)
  rw [bokB_no hno] at CV
  clear hn ha hno
  go_enter Try.func6, Try.ntmps6
  go_wp2_with fail
  refine CV.out.mono ?_
  rintro e w1 ⟨rfl, hw1⟩
  go_wp2_with fail
  go_ret
  exact ⟨rfl, (HB0.out.next hw1).1⟩
theorem take_snoc0 {os : List PieceM} {i : Nat} (h : i < os.length) : os.take (i + 1) = os.take i ++ [os[i]] := (List.take_append_getElem h).symm
set_option maxHeartbeats 8000000 in
theorem specPipe_yes {u x : Int} {os : List PieceM} (hok : bOK u x os) : BoardPipeP 6 (fun _ => True) u x os (pipeS os) := by
  intro a n cap w hn ha hc hm _
  have HB0 := hide (BoxV.start w #[.int .i64 u, .int .i64 x, .slice a n cap] 29)
  have k0 := HB0.out.cell 0 _ rfl; have k1 := HB0.out.cell 1 _ rfl; have k2 := HB0.out.cell 2 _ rfl
  have CV := hide (l15OK_walk u x a n cap os (w.alloc (.cells #[.int .i64 u, .int .i64 x, .slice a n cap] 29)) hn (ha.below HB0.out.1 (Nat.le_refl _)) hm)
  rw [bokB_yes hok] at CV
  have HN := hide hn; have HA := hide ha; have HOK := hide hok
  clear hn ha hok
  go_enter Try.func6, Try.ntmps6
  go_wp2_with fail
  refine CV.out.mono ?_
  rintro e w1 ⟨rfl, hw1⟩
  have HB1 := hide (HB0.out.next hw1)
  clear hw1 CV k0 k1 k2 HB0
  go_wp2_with fail
  go_loopw [3, 4] (fun s t w2 => ∃ i : Nat, i ≤ n ∧ t = .int .i64 i ∧ s = .int .i64 (pipeS (os.take i)) ∧ Hid (BoxV w w2 #[.int .i64 u, .int .i64 x, .slice a n cap] 29)) (fun _ t _ => n - (intOf t).toNat)
  case atStart => exact ⟨0, Nat.zero_le _, rfl, rfl, HB1⟩
  case round =>
    obtain ⟨i, hi, rfl, rfl, HB⟩ := hrel
    have b2 := HB.out.cell 2 _ rfl
    by_cases hlt : i < n
    · have hio : i < os.length := by rw [HN.out]; exact hlt
      obtain ⟨b, off, rfl, hbs, c0, c1, c2, c3, c4, c5⟩ := piece_cells (HA.out.below HB.out.1 (Nat.le_refl _)) hio
      have HT : Hid (pipeS (os.take (i + 1)) = pipeS (os.take i) + (if os[i].f4 = false ∧ os[i].f5 = false then os[i].f1 - os[i].f0 else 0)) := hide (by rw [take_snoc0 hio, pipeS_app]; simp [pipeS])
      obtain ⟨s0, s1⟩ : 0 ≤ pipeS (os.take i) ∧ pipeS (os.take i) ≤ 1099511627776 := bOK_parts (b := os.drop i) (by rw [List.take_append_drop]; exact HOK.out)
      obtain ⟨q0, q1, q2⟩ : 0 ≤ os[i].f0 ∧ os[i].f0 < os[i].f1 ∧ os[i].f1 ≤ 1099511627776 := bOK_piece HOK.out (List.getElem_mem hio)
      generalize pipeS (os.take i) = s at *
      generalize os[i] = o at *
      obtain ⟨x0, x1, x2, x3, x4, x5⟩ := o
      dsimp only at c0 c1 c2 c3 c4 c5 q0 q1 q2 HT
      cases hw : (!x4 && !x5) with
      | false =>
        have HS3 : Hid (pipeS (os.take (i + 1)) = s) := hide (by rw [HT.out, if_neg (by cases x4 <;> cases x5 <;> simp_all)]; omega)
        clear HT
        cases x4 with
        | true =>
          clear hw
          go_wp2_with fail
          exact ⟨⟨i + 1, by omega, by go_num, by rw [HS3.out], HB⟩, by simp [intOf]; omega⟩
        | false =>
          have h5 : x5 = true := by cases x5 <;> simp_all
          subst h5
          clear hw
          go_wp2_with fail
          exact ⟨⟨i + 1, by omega, by go_num, by rw [HS3.out], HB⟩, by simp [intOf]; omega⟩
      | true =>
        have HS3 : Hid (pipeS (os.take (i + 1)) = s + x1 - x0) := hide (by rw [HT.out, if_pos (by cases x4 <;> cases x5 <;> simp_all)]; omega)
        clear HT
        have h4 : x4 = false := by cases x4 <;> simp_all
        have h5 : x5 = false := by cases x5 <;> simp_all
        subst h4 h5
        clear hw
        go_wp2_with fail
        go_quiet (fail)
        go_wp2_with fail
        exact ⟨⟨i + 1, by omega, by go_num, by rw [HS3.out], hide (HB.out.next (below_drewN (Below.refl _ _) nq))⟩, by simp [intOf]; omega⟩
    · have hin : i = n := by omega
      subst hin
      have HF : Hid (pipeS (os.take i) = pipeS os) := hide (by rw [List.take_of_length_le (by rw [HN.out]; exact Nat.le_refl _)])
      generalize pipeS (os.take i) = s at *
      go_wp2_with fail
      go_ret
      exact ⟨ret_int HF.out, HB.out.1⟩
set_option maxRecDepth 100000
/-- What is wanted of BoardTimeout. -/
def BoardTimeoutP (f : Nat) (Pre : World → Prop) (x0_0 : Int) (x0_1 : Int) (z0_0 : List PieceM) (y0_0 : Int) (y0_1 : Int) (L0_0 : List PieceM) (C1 : Int) : Prop :=
  ∀ (a0_0 : Option Addr) (n0_0 c0_0 : Nat) (W : World), z0_0.length = n0_0 → ArrP W a0_0 (z0_0.flatMap valPiece) → n0_0 ≤ c0_0 → n0_0 ≤ 1048576 → Pre W → Calls Try.prog f #[.agg #[.int .i64 x0_0, .int .i64 x0_1, .slice a0_0 n0_0 c0_0]] W fun e w' => ∃ v0_0 : Value, e = .returned (.tuple #[.agg #[.int .i64 y0_0, .int .i64 y0_1, v0_0], .int .i64 C1]) ∧ OwnP w' W.heap.size v0_0 L0_0 ∧ Below W.heap.size W w'
set_option maxRecDepth 100000
set_option maxHeartbeats 8000000 in
theorem specTimeout_yes {u x : Int} {os : List PieceM} (hok : bOK u x os) : BoardTimeoutP 59 (fun _ => True) u x os u x (os.map lostP) 0 := by
  intro a n cap w hn ha hc hm _
  obtain ⟨hb2, hX, hR⟩ := two_boxes w #[.int .i64 u, .int .i64 x, .slice a n cap] #[.int .i64 0, .int .i64 0, .slice none 0 0] 29 29
  have HB2 := hide hb2; have HX := hide hX; have HR := hide hR
  have k0 := hX.cell 0 _ rfl; have k1 := hX.cell 1 _ rfl; have k2 := hX.cell 2 _ rfl
  have CV := hide (l15OK_walk u x a n cap os ((w.alloc (.cells #[.int .i64 u, .int .i64 x, .slice a n cap] 29)).alloc (.cells #[.int .i64 0, .int .i64 0, .slice none 0 0] 29)) hn (ha.below hb2 (Nat.le_refl _)) hm)
  rw [bokB_yes hok] at CV
  have HN := hide hn
  have HA := hide (ha.below hb2 (Nat.le_refl _))
  have hV : w.heap.size + 1 < ((w.alloc (.cells #[.int .i64 u, .int .i64 x, .slice a n cap] 29)).alloc (.cells #[.int .i64 0, .int .i64 0, .slice none 0 0] 29)).heap.size := hR.lt
  clear hn ha hok hb2 hX hR
  go_enter Try.func59, Try.ntmps59
  go_wp2_with fail
  generalize (w.alloc (.cells #[.int .i64 u, .int .i64 x, .slice a n cap] 29)).alloc (.cells #[.int .i64 0, .int .i64 0, .slice none 0 0] 29) = V at *
  refine CV.out.mono ?_
  rintro e w1 ⟨rfl, hw1⟩
  have CC := hide (l15Copy_walk u x a n cap os w1 HN.out (HA.out.below hw1 (Nat.le_refl _)) hm)
  have HR1 := hide (HR.out.next hw1)
  have HX1 := hide (HX.out.next hw1)
  have HB1 : Hid (Below w.heap.size w w1) := hide (HB2.out.trans (hw1.mono HB2.out.size))
  have hV1 := hw1.size
  clear hw1 CV k0 k1 k2 HB2 HX HR
  have k0 := HX1.out.cell 0 _ rfl; have k1 := HX1.out.cell 1 _ rfl; have k2 := HX1.out.cell 2 _ rfl
  go_wp2_with fail
  refine CC.out.mono ?_
  rintro e w2 ⟨v, rfl, hO, hw2⟩
  obtain ⟨bz, nz, rfl⟩ := hO.form
  have HR2 := hide (HR1.out.next hw2)
  have HX2 := hide (HX1.out.next hw2)
  have HB3 : Hid (Below w.heap.size w w2) := hide (HB1.out.trans (hw2.mono HB1.out.size))
  have HO := hide hO
  have hBB : w.heap.size + 2 ≤ w1.heap.size + 2 := by omega
  clear hO hw2 CC HB1 HR1 HX1 k0 k1 k2
  have k0 := HX2.out.cell 0 _ rfl; have k1 := HX2.out.cell 1 _ rfl; have k2 := HX2.out.cell 2 _ rfl; have kf := HX2.out.frozen
  go_upto_region 4 with fail
  have HX3 := hide (hv_set (hv_set (hv_set HX2.out 0 (.int .i64 u)) 1 (.int .i64 x)) 2 (.slice bz n nz))
  have HR3 := hide (hv_other (hv_other (hv_other HR2.out (C := w.heap.size) (by omega) 0 (.int .i64 u)) (C := w.heap.size) (by omega) 1 (.int .i64 x)) (C := w.heap.size) (by omega) 2 (.slice bz n nz))
  have hg3 : w2.grownBy (((w2.setCell ⟨w.heap.size, 0, none⟩ (.int .i64 u)).setCell ⟨w.heap.size, 1, none⟩ (.int .i64 x)).setCell ⟨w.heap.size, 2, none⟩ (.slice bz n nz)) (some w.heap.size) := gr_set (gr_set (gr_set (grown_reflp _ _) 0 _) 1 _) 2 _
  have HO3 := hide (row_gr HO.out hg3 (by omega))
  have HB4 := hide (below_gr HB3.out hg3 HB3.out.size (Nat.le_refl _))
  clear k0 k1 k2 kf HX2 HR2 HO HB3 hg3
  generalize ((w2.setCell ⟨w.heap.size, 0, none⟩ (.int .i64 u)).setCell ⟨w.heap.size, 1, none⟩ (.int .i64 x)).setCell ⟨w.heap.size, 2, none⟩ (.slice bz n nz) = W at *
  have hBB2 : w.heap.size + 2 ≤ w1.heap.size + 2 := hBB
  generalize w1.heap.size + 2 = BB at *
  go_wp2_with fail
  go_loopw [4] (fun t w2 => ∃ i : Nat, i ≤ n ∧ t = .int .i64 i ∧ Hid (RowP w2 BB (.slice bz n nz) n (chgL lostP os i)) ∧ Hid (HoldV w2 w.heap.size #[.int .i64 u, .int .i64 x, .slice bz n nz] 29) ∧ Hid (HoldV w2 (w.heap.size + 1) #[.int .i64 0, .int .i64 0, .slice none 0 0] 29) ∧ Hid (Below w.heap.size w w2)) (fun t _ => n - (intOf t).toNat)
  case atStart => exact ⟨0, Nat.zero_le _, rfl, hide (by rw [chgL_zero]; exact HO3.out), HX3, HR3, HB4⟩
  case round =>
    obtain ⟨i, hi, rfl, HO, HX, HR, HB⟩ := hrel
    have k0 := HX.out.cell 0 _ rfl; have k1 := HX.out.cell 1 _ rfl; have k2 := HX.out.cell 2 _ rfl
    by_cases hlt : i < n
    · have hio : i < os.length := by rw [HN.out]; exact hlt
      obtain ⟨g, cp, e, hgB, hgl⟩ := HO.out.some (by omega)
      injection e with e1 e2 e3
      subst e1 e3
      have hl : i < (chgL lostP os i).length := by rw [chgL_len _ _ _ (by omega)]; exact hio
      have hget := chgL_get lostP os i hio hl
      have hcl : (chgL lostP os i).length = n := by rw [chgL_len _ _ _ (by omega)]; exact HN.out
      have c5 := HO.out.at hcl hl (j := 5) (by omega)
      have c4 := HO.out.at hcl hl (j := 4) (by omega)
      have cf := row_frozen HO.out
      have o1 := HO.out.put hl (j := 5) (by omega) (.bool true) ⟨os[i].f0, os[i].f1, os[i].f2, os[i].f3, os[i].f4, true⟩ (by rw [hget]; rfl)
      have o2 := o1.put (i := i) (j := 4) (by rw [List.length_set]; exact hl) (by omega) (.bool false) (lostP os[i]) (by rw [List.getElem_set_self]; rfl)
      rw [List.set_set, chgL_set lostP os i hio] at o2
      have hne : w.heap.size ≠ g := by omega
      have HO2 := hide o2
      have HX2 := hide (hv_other (hv_other HX.out (C := g) (by omega) (i * 6 + 5) (.bool true)) (C := g) (by omega) (i * 6 + 4) (.bool false))
      have HR2 := hide (hv_other (hv_other HR.out (C := g) (by omega) (i * 6 + 5) (.bool true)) (C := g) (by omega) (i * 6 + 4) (.bool false))
      have HB2 := hide ((HB.out.setCell (p := ⟨g, i * 6 + 5, none⟩) (by show w.heap.size ≤ g; omega) (.bool true)).setCell (p := ⟨g, i * 6 + 4, none⟩) (by show w.heap.size ≤ g; omega) (.bool false))
      rw [hget] at c5 c4
      have c5' : wr.cell? ⟨g, i * 6 + 5, none⟩ = some (.bool os[i].f5) := c5
      have c4' : wr.cell? ⟨g, i * 6 + 4, none⟩ = some (.bool os[i].f4) := c4
      clear o1 o2 c5 c4 HO hcl hget hl hgB hgl HB HR
      generalize os[i].f5 = b5 at *
      generalize os[i].f4 = b4 at *
      go_wp2_with fail
      exact ⟨⟨i + 1, by omega, by go_num, HO2, HX2, HR2, HB2⟩, by simp [intOf]; omega⟩
    · have hin : i = n := by omega
      have HO2 := hide HO.out
      rw [hin, chgL_all _ _ _ (by rw [HN.out]; exact Nat.le_refl _)] at HO2
      have r0 := HR.out.cell 0 _ rfl; have r1 := HR.out.cell 1 _ rfl; have r2 := HR.out.cell 2 _ rfl; have rf := HR.out.frozen
      clear HO HX HR
      go_wp2_with fail
      exact bodyPost_ret (v := .tuple #[.agg #[.int .i64 u, .int .i64 x, .slice bz n nz], .int .i64 0]) (by simp [results, Try.results59, go_sem, r0, r1, r2]) rfl ⟨_, rfl, ownP_mono (row_own (row_gr HO2.out (gr_set (gr_set (gr_set (grown_reflp _ _) 0 _) 1 _) 2 _) (by omega)) (by rw [List.length_map, HN.out])) (by omega), below_gr HB.out (gr_set (gr_set (gr_set (grown_reflp _ _) 0 _) 1 _) 2 _) HB.out.size (Nat.le_succ _)⟩
set_option maxRecDepth 100000
/-- What is wanted of BoardSend. -/
def BoardSendP (f : Nat) (Pre : World → Prop) (x0_0 : Int) (x0_1 : Int) (z0_0 : List PieceM) (m1 : Int) (m2 : Int) (y0_0 : Int) (y0_1 : Int) (L0_0 : List PieceM) (C1 : Int) : Prop :=
  ∀ (a0_0 : Option Addr) (n0_0 c0_0 : Nat) (W : World), z0_0.length = n0_0 → ArrP W a0_0 (z0_0.flatMap valPiece) → n0_0 ≤ c0_0 → n0_0 ≤ 1048576 → Pre W → Calls Try.prog f #[.agg #[.int .i64 x0_0, .int .i64 x0_1, .slice a0_0 n0_0 c0_0], .int .i64 m1, .int .i64 m2] W fun e w' => ∃ v0_0 : Value, e = .returned (.tuple #[.agg #[.int .i64 y0_0, .int .i64 y0_1, v0_0], .int .i64 C1]) ∧ OwnP w' W.heap.size v0_0 L0_0 ∧ Below W.heap.size W w'
set_option maxRecDepth 100000
set_option maxHeartbeats 8000000 in
theorem implSend_form {u x : Int} {os : List PieceM} (k : Int) (t : Int) (hok : bOK u x os) (hf : ¬ sdOK k t) : BoardSendP 11 (fun _ => True) u x os k t 0 0 [] 1 := by
  intro a n cap w hn ha hc hm _
  obtain ⟨hb2, hX, hR⟩ := two_boxes w #[.int .i64 u, .int .i64 x, .slice a n cap] #[.int .i64 0, .int .i64 0, .slice none 0 0] 29 29
  have HB2 := hide hb2; have HX := hide hX; have HR := hide hR
  have k0 := hX.cell 0 _ rfl; have k1 := hX.cell 1 _ rfl; have k2 := hX.cell 2 _ rfl
  have CV := hide (newPieceList_yes u x a n cap os ((w.alloc (.cells #[.int .i64 u, .int .i64 x, .slice a n cap] 29)).alloc (.cells #[.int .i64 0, .int .i64 0, .slice none 0 0] 29)) hn (ha.below hb2 (Nat.le_refl _)) hm hok)
  have HOK := hide hok
  have HN := hide hn
  have hV : w.heap.size + 1 < ((w.alloc (.cells #[.int .i64 u, .int .i64 x, .slice a n cap] 29)).alloc (.cells #[.int .i64 0, .int .i64 0, .slice none 0 0] 29)).heap.size := hR.lt
  clear hn ha hok hb2 hX hR
  have HPS := hide (fun W => isPieceSize_walk k W)
  have HTI := hide (fun W => isTime_walk t W)
  have hcase : inB k 1 65535 = false ∨ (inB k 1 65535 = true ∧ inB t 0 1000000000 = false) := by
    by_cases h1 : 1 ≤ k ∧ k ≤ 65535
    · exact .inr ⟨inB_iff.2 h1, decide_eq_false (fun h2 => hf ⟨h1, h2⟩)⟩
    · exact .inl (decide_eq_false h1)
  clear hf
  rcases hcase with h1 | ⟨h1, h2⟩
  · rw [h1] at HPS
    clear h1
    go_enter Try.func11, Try.ntmps11
    go_wp2_with fail
    generalize (w.alloc (.cells #[.int .i64 u, .int .i64 x, .slice a n cap] 29)).alloc (.cells #[.int .i64 0, .int .i64 0, .slice none 0 0] 29) = V at *
    refine CV.out.mono ?_
    rintro e w1 ⟨L, ns, rfl, hD, hM, hw1⟩
    have HR1 := hide (HR.out.next hw1)
    have HB1 : Hid (Below w.heap.size w w1) := hide (HB2.out.trans (hw1.mono HB2.out.size))
    have r0 := HR1.out.cell 0 _ rfl; have r1 := HR1.out.cell 1 _ rfl; have r2 := HR1.out.cell 2 _ rfl; have rf := HR1.out.frozen
    clear hw1 CV k0 k1 k2 HB2 HX HR hD hM
    go_wp2_with (first | (go_at_call 25; with_reducible refine (HPS.out _).mono ?_; rintro e w2 ⟨rfl, rfl⟩) | (go_at_call 26; with_reducible refine (HTI.out _).mono ?_; rintro e w2 ⟨rfl, rfl⟩))
    exact bodyPost_ret (v := .tuple #[.agg #[.int .i64 0, .int .i64 0, .slice none 0 0], .int .i64 1]) (by simp [results, Try.results11, go_sem, r0, r1, r2]) rfl ⟨_, rfl, ownP_nil _ _, below_gr HB1.out (gr_set (gr_set (gr_set (grown_reflp _ _) 0 _) 1 _) 2 _) HB1.out.size (Nat.le_succ _)⟩
  · rw [h1] at HPS
    rw [h2] at HTI
    clear h1 h2
    go_enter Try.func11, Try.ntmps11
    go_wp2_with fail
    generalize (w.alloc (.cells #[.int .i64 u, .int .i64 x, .slice a n cap] 29)).alloc (.cells #[.int .i64 0, .int .i64 0, .slice none 0 0] 29) = V at *
    refine CV.out.mono ?_
    rintro e w1 ⟨L, ns, rfl, hD, hM, hw1⟩
    have HR1 := hide (HR.out.next hw1)
    have HB1 : Hid (Below w.heap.size w w1) := hide (HB2.out.trans (hw1.mono HB2.out.size))
    have r0 := HR1.out.cell 0 _ rfl; have r1 := HR1.out.cell 1 _ rfl; have r2 := HR1.out.cell 2 _ rfl; have rf := HR1.out.frozen
    clear hw1 CV k0 k1 k2 HB2 HX HR hD hM
    go_wp2_with (first | (go_at_call 25; with_reducible refine (HPS.out _).mono ?_; rintro e w2 ⟨rfl, rfl⟩) | (go_at_call 26; with_reducible refine (HTI.out _).mono ?_; rintro e w2 ⟨rfl, rfl⟩))
    exact bodyPost_ret (v := .tuple #[.agg #[.int .i64 0, .int .i64 0, .slice none 0 0], .int .i64 1]) (by simp [results, Try.results11, go_sem, r0, r1, r2]) rfl ⟨_, rfl, ownP_nil _ _, below_gr HB1.out (gr_set (gr_set (gr_set (grown_reflp _ _) 0 _) 1 _) 2 _) HB1.out.size (Nat.le_succ _)⟩

set_option maxHeartbeats 8000000 in
theorem implSend_full {u x : Int} {os : List PieceM} (k : Int) (t : Int) (hok : bOK u x os) (hs : sdOK k t) (hf : sdFull x k os) : BoardSendP 11 (fun _ => True) u x os k t 0 0 [] 18 := by
  intro a n cap w hn ha hc hm _
  obtain ⟨hb2, hX, hR⟩ := two_boxes w #[.int .i64 u, .int .i64 x, .slice a n cap] #[.int .i64 0, .int .i64 0, .slice none 0 0] 29 29
  have HB2 := hide hb2; have HX := hide hX; have HR := hide hR
  have k0 := hX.cell 0 _ rfl; have k1 := hX.cell 1 _ rfl; have k2 := hX.cell 2 _ rfl
  have CV := hide (newPieceList_yes u x a n cap os ((w.alloc (.cells #[.int .i64 u, .int .i64 x, .slice a n cap] 29)).alloc (.cells #[.int .i64 0, .int .i64 0, .slice none 0 0] 29)) hn (ha.below hb2 (Nat.le_refl _)) hm hok)
  have HOK := hide hok
  have HN := hide hn
  have hV : w.heap.size + 1 < ((w.alloc (.cells #[.int .i64 u, .int .i64 x, .slice a n cap] 29)).alloc (.cells #[.int .i64 0, .int .i64 0, .slice none 0 0] 29)).heap.size := hR.lt
  clear hn ha hok hb2 hX hR
  have HPS := hide (fun W => isPieceSize_walk k W)
  have HTI := hide (fun W => isTime_walk t W)
  rw [inB_iff.2 hs.1] at HPS
  rw [inB_iff.2 hs.2] at HTI
  have HK := hide hs.1
  have HF := hide hf
  clear hs hf
  go_enter Try.func11, Try.ntmps11
  go_wp2_with fail
  generalize (w.alloc (.cells #[.int .i64 u, .int .i64 x, .slice a n cap] 29)).alloc (.cells #[.int .i64 0, .int .i64 0, .slice none 0 0] 29) = V at *
  refine CV.out.mono ?_
  rintro e w1 ⟨L, ns, rfl, hD, hM, hw1⟩
  have CS := hide (send_full _ L u x k t ns w1 hD hw1.size (by rw [hM]; exact HOK.out) HK.out (by rw [hM]; exact HF.out))
  have HR1 := hide (HR.out.next hw1)
  have HB1 : Hid (Below w.heap.size w w1) := hide (HB2.out.trans (hw1.mono HB2.out.size))
  have r0 := HR1.out.cell 0 _ rfl; have r1 := HR1.out.cell 1 _ rfl; have r2 := HR1.out.cell 2 _ rfl; have rf := HR1.out.frozen
  clear hw1 CV k0 k1 k2 HB2 HX HR hD hM
  go_wp2_with (first | (go_at_call 25; with_reducible refine (HPS.out _).mono ?_; rintro e w2 ⟨rfl, rfl⟩) | (go_at_call 26; with_reducible refine (HTI.out _).mono ?_; rintro e w2 ⟨rfl, rfl⟩) | (go_at_call 27; with_reducible refine CS.out.mono ?_; rintro e w2 ⟨rfl, rfl⟩))
  exact bodyPost_ret (v := .tuple #[.agg #[.int .i64 0, .int .i64 0, .slice none 0 0], .int .i64 18]) (by simp [results, Try.results11, go_sem, r0, r1, r2]) rfl ⟨_, rfl, ownP_nil _ _, below_gr HB1.out (gr_set (gr_set (gr_set (grown_reflp _ _) 0 _) 1 _) 2 _) HB1.out.size (Nat.le_succ _)⟩

set_option maxHeartbeats 8000000 in
theorem implSend_yes {u x : Int} {os : List PieceM} (k : Int) (t : Int) (hok : bOK u x os) (hs : sdOK k t) (hf : ¬ sdFull x k os) : BoardSendP 11 (fun _ => True) u x os k t u (x + k) (os ++ [newP x k t]) 0 := by
  intro a n cap w hn ha hc hm _
  obtain ⟨hb2, hX, hR⟩ := two_boxes w #[.int .i64 u, .int .i64 x, .slice a n cap] #[.int .i64 0, .int .i64 0, .slice none 0 0] 29 29
  have HB2 := hide hb2; have HX := hide hX; have HR := hide hR
  have k0 := hX.cell 0 _ rfl; have k1 := hX.cell 1 _ rfl; have k2 := hX.cell 2 _ rfl
  have CV := hide (newPieceList_yes u x a n cap os ((w.alloc (.cells #[.int .i64 u, .int .i64 x, .slice a n cap] 29)).alloc (.cells #[.int .i64 0, .int .i64 0, .slice none 0 0] 29)) hn (ha.below hb2 (Nat.le_refl _)) hm hok)
  have HOK := hide hok
  have HN := hide hn
  have hV : w.heap.size + 1 < ((w.alloc (.cells #[.int .i64 u, .int .i64 x, .slice a n cap] 29)).alloc (.cells #[.int .i64 0, .int .i64 0, .slice none 0 0] 29)).heap.size := hR.lt
  have HLL : Hid ((os ++ [newP x k t]).length ≤ 1048576) := hide (by have := hok.2.2.1; rw [List.length_append, List.length_singleton]; omega)
  clear hn ha hok hb2 hX hR
  have HPS := hide (fun W => isPieceSize_walk k W)
  have HTI := hide (fun W => isTime_walk t W)
  rw [inB_iff.2 hs.1] at HPS
  rw [inB_iff.2 hs.2] at HTI
  have HK := hide hs.1
  have HF := hide hf
  clear hs hf
  go_enter Try.func11, Try.ntmps11
  go_wp2_with fail
  generalize (w.alloc (.cells #[.int .i64 u, .int .i64 x, .slice a n cap] 29)).alloc (.cells #[.int .i64 0, .int .i64 0, .slice none 0 0] 29) = V at *
  refine CV.out.mono ?_
  rintro e w1 ⟨L, ns, rfl, hD, hM, hw1⟩
  have CS := hide (send_yes _ L u x k t ns w1 hD hw1.size (by rw [hM]; exact HOK.out) HK.out (by rw [hM]; exact HF.out))
  rw [hM] at CS
  have HR1 := hide (HR.out.next hw1)
  have HB1 : Hid (Below w.heap.size w w1) := hide (HB2.out.trans (hw1.mono HB2.out.size))
  have hV1 := hw1.size
  clear hw1 CV k0 k1 k2 HB2 HX HR hD hM
  go_wp2_with (first | (go_at_call 25; with_reducible refine (HPS.out _).mono ?_; rintro e w2 ⟨rfl, rfl⟩) | (go_at_call 26; with_reducible refine (HTI.out _).mono ?_; rintro e w2 ⟨rfl, rfl⟩))
  refine CS.out.mono ?_
  rintro e w2 ⟨ns2, rfl, hD2, hM2, hw2⟩
  have hlen : ns2.length ≤ 1048576 := by have := congrArg List.length hM2; rw [List.length_map] at this; rw [this]; exact HLL.out
  have CB := hide (board_walk _ L u (x + k) ns2 w2 hD2 hlen)
  rw [hM2] at CB
  have HR2 := hide (HR1.out.below hw2 hV)
  have HB3 : Hid (Below w.heap.size w w2) := hide (HB1.out.trans (hw2.mono (by omega)))
  have hV2 := hw2.size
  clear hD2 hM2 hw2 hlen CS HR1 HB1
  go_wp2_with fail
  refine CB.out.mono ?_
  rintro e w3 ⟨v, rfl, hO, hw3⟩
  obtain ⟨bz, nz, rfl, _⟩ := arrP_own hO
  have HR3 := hide (HR2.out.next hw3)
  have HO := hide (ownP_mono hO (C := w.heap.size + 2) (by omega))
  have HB4 : Hid (Below w.heap.size w w3) := hide (HB3.out.trans (hw3.mono HB3.out.size))
  have r0 := HR3.out.cell 0 _ rfl; have r1 := HR3.out.cell 1 _ rfl; have r2 := HR3.out.cell 2 _ rfl; have rf := HR3.out.frozen
  clear hO hw3 CB HB3 HR2
  obtain ⟨ln, hln⟩ : ∃ ln, ln = (os ++ [newP x k t]).length := ⟨_, rfl⟩
  rw [← hln]
  go_wp2_with fail
  subst hln
  exact bodyPost_ret (v := .tuple #[.agg #[.int .i64 u, .int .i64 (x + k), .slice bz (os ++ [newP x k t]).length nz], .int .i64 0]) (by simp [results, Try.results11, go_sem, r0, r1, r2]) rfl ⟨_, rfl, ownP_mono (ownP_gr HO.out (gr_set (gr_set (gr_set (grown_reflp _ _) 0 _) 1 _) 2 _) (Nat.lt_succ_self _)) (by omega), below_gr HB4.out (gr_set (gr_set (gr_set (grown_reflp _ _) 0 _) 1 _) 2 _) HB4.out.size (Nat.le_succ _)⟩
set_option maxRecDepth 100000
set_option maxHeartbeats 8000000 in
theorem specSend_form {u x : Int} {os : List PieceM} (k t : Int) (hok : bOK u x os) (hf : ¬ sdOK k t) : BoardSendP 10 (fun _ => True) u x os k t 0 0 [] 1 := by
  intro a n cap w hn ha hc hm _
  obtain ⟨hb2, hX, hR⟩ := two_boxes w #[.int .i64 u, .int .i64 x, .slice a n cap] #[.int .i64 0, .int .i64 0, .slice none 0 0] 29 29
  have HB2 := hide hb2; have HX := hide hX; have HR := hide hR
  have k0 := hX.cell 0 _ rfl; have k1 := hX.cell 1 _ rfl; have k2 := hX.cell 2 _ rfl
  have CV := hide (l15OK_walk u x a n cap os ((w.alloc (.cells #[.int .i64 u, .int .i64 x, .slice a n cap] 29)).alloc (.cells #[.int .i64 0, .int .i64 0, .slice none 0 0] 29)) hn (ha.below hb2 (Nat.le_refl _)) hm)
  rw [bokB_yes hok] at CV
  have HOK := hide hok
  have HN := hide hn
  have HA := hide (ha.below hb2 (Nat.le_refl _))
  have hV : w.heap.size + 1 < ((w.alloc (.cells #[.int .i64 u, .int .i64 x, .slice a n cap] 29)).alloc (.cells #[.int .i64 0, .int .i64 0, .slice none 0 0] 29)).heap.size := hR.lt
  have hcase : inB k 1 65535 = false ∨ (inB k 1 65535 = true ∧ inB t 0 1000000000 = false) := by
    by_cases h1 : 1 ≤ k ∧ k ≤ 65535
    · exact .inr ⟨inB_iff.2 h1, decide_eq_false (fun h2 => hf ⟨h1, h2⟩)⟩
    · exact .inl (decide_eq_false h1)
  clear hn ha hok hb2 hX hR hf
  rcases hcase with h1 | ⟨h1, h2⟩
  · go_enter Try.func10, Try.ntmps10
    go_wp2_with fail
    generalize (w.alloc (.cells #[.int .i64 u, .int .i64 x, .slice a n cap] 29)).alloc (.cells #[.int .i64 0, .int .i64 0, .slice none 0 0] 29) = V at *
    refine CV.out.mono ?_
    rintro e w1 ⟨rfl, hw1⟩
    have HR1 := hide (HR.out.next hw1)
    have HX1 := hide (HX.out.next hw1)
    have HB1 : Hid (Below w.heap.size w w1) := hide (HB2.out.trans (hw1.mono HB2.out.size))
    have r0 := HR1.out.cell 0 _ rfl; have r1 := HR1.out.cell 1 _ rfl; have r2 := HR1.out.cell 2 _ rfl; have rf := HR1.out.frozen
    have k0' := HX1.out.cell 0 _ rfl; have k1' := HX1.out.cell 1 _ rfl; have k2' := HX1.out.cell 2 _ rfl
    clear hw1 CV k0 k1 k2 HB2 HX HR
    go_wp2_with (go_at_call 23; refine (In_walk _ _ _ _).mono ?_; rintro e w9 ⟨rfl, hq⟩; rw [hq]; clear hq)
    exact bodyPost_ret (v := .tuple #[.agg #[.int .i64 0, .int .i64 0, .slice none 0 0], .int .i64 1]) (by simp [results, Try.results10, go_sem, r0, r1, r2]) rfl ⟨_, rfl, ownP_nil _ _, below_gr HB1.out (gr_set (gr_set (gr_set (grown_reflp _ _) 0 _) 1 _) 2 _) HB1.out.size (Nat.le_succ _)⟩
  · go_enter Try.func10, Try.ntmps10
    go_wp2_with fail
    generalize (w.alloc (.cells #[.int .i64 u, .int .i64 x, .slice a n cap] 29)).alloc (.cells #[.int .i64 0, .int .i64 0, .slice none 0 0] 29) = V at *
    refine CV.out.mono ?_
    rintro e w1 ⟨rfl, hw1⟩
    have HR1 := hide (HR.out.next hw1)
    have HX1 := hide (HX.out.next hw1)
    have HB1 : Hid (Below w.heap.size w w1) := hide (HB2.out.trans (hw1.mono HB2.out.size))
    have r0 := HR1.out.cell 0 _ rfl; have r1 := HR1.out.cell 1 _ rfl; have r2 := HR1.out.cell 2 _ rfl; have rf := HR1.out.frozen
    have k0' := HX1.out.cell 0 _ rfl; have k1' := HX1.out.cell 1 _ rfl; have k2' := HX1.out.cell 2 _ rfl
    clear hw1 CV k0 k1 k2 HB2 HX HR
    go_wp2_with (go_at_call 23; refine (In_walk _ _ _ _).mono ?_; rintro e w9 ⟨rfl, hq⟩; rw [hq]; clear hq)
    exact bodyPost_ret (v := .tuple #[.agg #[.int .i64 0, .int .i64 0, .slice none 0 0], .int .i64 1]) (by simp [results, Try.results10, go_sem, r0, r1, r2]) rfl ⟨_, rfl, ownP_nil _ _, below_gr HB1.out (gr_set (gr_set (gr_set (grown_reflp _ _) 0 _) 1 _) 2 _) HB1.out.size (Nat.le_succ _)⟩

set_option maxHeartbeats 8000000 in
theorem specSend_full {u x : Int} {os : List PieceM} (k t : Int) (hok : bOK u x os) (hs : sdOK k t) (hf : sdFull x k os) : BoardSendP 10 (fun _ => True) u x os k t 0 0 [] 18 := by
  intro a n cap w hn ha hc hm _
  obtain ⟨hb2, hX, hR⟩ := two_boxes w #[.int .i64 u, .int .i64 x, .slice a n cap] #[.int .i64 0, .int .i64 0, .slice none 0 0] 29 29
  have HB2 := hide hb2; have HX := hide hX; have HR := hide hR
  have k0 := hX.cell 0 _ rfl; have k1 := hX.cell 1 _ rfl; have k2 := hX.cell 2 _ rfl
  have CV := hide (l15OK_walk u x a n cap os ((w.alloc (.cells #[.int .i64 u, .int .i64 x, .slice a n cap] 29)).alloc (.cells #[.int .i64 0, .int .i64 0, .slice none 0 0] 29)) hn (ha.below hb2 (Nat.le_refl _)) hm)
  rw [bokB_yes hok] at CV
  have HOK := hide hok
  have HN := hide hn
  have HA := hide (ha.below hb2 (Nat.le_refl _))
  have hV : w.heap.size + 1 < ((w.alloc (.cells #[.int .i64 u, .int .i64 x, .slice a n cap] 29)).alloc (.cells #[.int .i64 0, .int .i64 0, .slice none 0 0] 29)).heap.size := hR.lt
  have h1 : inB k 1 65535 = true := inB_iff.2 hs.1
  have h2 : inB t 0 1000000000 = true := inB_iff.2 hs.2
  have hx0 : 0 ≤ x := by have := chk_le _ _ _ hok.2.2.2; have := hok.1; omega
  have hx1 := hok.2.1
  obtain ⟨⟨q1, q2⟩, q3, q4⟩ := hs
  have hcase : 4096 ≤ (n : Int) ∨ (¬ 4096 ≤ (n : Int) ∧ 1099511627776 < x + k) := by
    rcases hf with h | h
    · exact .inl (by omega)
    · by_cases h4 : 4096 ≤ (n : Int)
      · exact .inl h4
      · exact .inr ⟨h4, h⟩
  clear hn ha hok hb2 hX hR hf
  rcases hcase with h3 | ⟨h3, h4⟩
  · go_enter Try.func10, Try.ntmps10
    go_wp2_with fail
    generalize (w.alloc (.cells #[.int .i64 u, .int .i64 x, .slice a n cap] 29)).alloc (.cells #[.int .i64 0, .int .i64 0, .slice none 0 0] 29) = V at *
    refine CV.out.mono ?_
    rintro e w1 ⟨rfl, hw1⟩
    have HR1 := hide (HR.out.next hw1)
    have HX1 := hide (HX.out.next hw1)
    have HB1 : Hid (Below w.heap.size w w1) := hide (HB2.out.trans (hw1.mono HB2.out.size))
    have r0 := HR1.out.cell 0 _ rfl; have r1 := HR1.out.cell 1 _ rfl; have r2 := HR1.out.cell 2 _ rfl; have rf := HR1.out.frozen
    have k0' := HX1.out.cell 0 _ rfl; have k1' := HX1.out.cell 1 _ rfl; have k2' := HX1.out.cell 2 _ rfl
    clear hw1 CV k0 k1 k2 HB2 HX HR
    go_wp2_with (go_at_call 23; refine (In_walk _ _ _ _).mono ?_; rintro e w9 ⟨rfl, hq⟩; rw [hq]; clear hq)
    exact bodyPost_ret (v := .tuple #[.agg #[.int .i64 0, .int .i64 0, .slice none 0 0], .int .i64 18]) (by simp [results, Try.results10, go_sem, r0, r1, r2]) rfl ⟨_, rfl, ownP_nil _ _, below_gr HB1.out (gr_set (gr_set (gr_set (grown_reflp _ _) 0 _) 1 _) 2 _) HB1.out.size (Nat.le_succ _)⟩
  · go_enter Try.func10, Try.ntmps10
    go_wp2_with fail
    generalize (w.alloc (.cells #[.int .i64 u, .int .i64 x, .slice a n cap] 29)).alloc (.cells #[.int .i64 0, .int .i64 0, .slice none 0 0] 29) = V at *
    refine CV.out.mono ?_
    rintro e w1 ⟨rfl, hw1⟩
    have HR1 := hide (HR.out.next hw1)
    have HX1 := hide (HX.out.next hw1)
    have HB1 : Hid (Below w.heap.size w w1) := hide (HB2.out.trans (hw1.mono HB2.out.size))
    have r0 := HR1.out.cell 0 _ rfl; have r1 := HR1.out.cell 1 _ rfl; have r2 := HR1.out.cell 2 _ rfl; have rf := HR1.out.frozen
    have k0' := HX1.out.cell 0 _ rfl; have k1' := HX1.out.cell 1 _ rfl; have k2' := HX1.out.cell 2 _ rfl
    clear hw1 CV k0 k1 k2 HB2 HX HR
    go_wp2_with (go_at_call 23; refine (In_walk _ _ _ _).mono ?_; rintro e w9 ⟨rfl, hq⟩; rw [hq]; clear hq)
    exact bodyPost_ret (v := .tuple #[.agg #[.int .i64 0, .int .i64 0, .slice none 0 0], .int .i64 18]) (by simp [results, Try.results10, go_sem, r0, r1, r2]) rfl ⟨_, rfl, ownP_nil _ _, below_gr HB1.out (gr_set (gr_set (gr_set (grown_reflp _ _) 0 _) 1 _) 2 _) HB1.out.size (Nat.le_succ _)⟩

set_option maxHeartbeats 8000000 in
theorem specSend_yes {u x : Int} {os : List PieceM} (k t : Int) (hok : bOK u x os) (hs : sdOK k t) (hf : ¬ sdFull x k os) : BoardSendP 10 (fun _ => True) u x os k t u (x + k) (os ++ [newP x k t]) 0 := by
  intro a n cap w hn ha hc hm _
  obtain ⟨hb2, hX, hR⟩ := two_boxes w #[.int .i64 u, .int .i64 x, .slice a n cap] #[.int .i64 0, .int .i64 0, .slice none 0 0] 29 29
  have HB2 := hide hb2; have HX := hide hX; have HR := hide hR
  have k0 := hX.cell 0 _ rfl; have k1 := hX.cell 1 _ rfl; have k2 := hX.cell 2 _ rfl
  have CV := hide (l15OK_walk u x a n cap os ((w.alloc (.cells #[.int .i64 u, .int .i64 x, .slice a n cap] 29)).alloc (.cells #[.int .i64 0, .int .i64 0, .slice none 0 0] 29)) hn (ha.below hb2 (Nat.le_refl _)) hm)
  rw [bokB_yes hok] at CV
  have HOK := hide hok
  have HN := hide hn
  have HA := hide (ha.below hb2 (Nat.le_refl _))
  have hV : w.heap.size + 1 < ((w.alloc (.cells #[.int .i64 u, .int .i64 x, .slice a n cap] 29)).alloc (.cells #[.int .i64 0, .int .i64 0, .slice none 0 0] 29)).heap.size := hR.lt
  have h1 : inB k 1 65535 = true := inB_iff.2 hs.1
  have h2 : inB t 0 1000000000 = true := inB_iff.2 hs.2
  have hx0 : 0 ≤ x := by have := chk_le _ _ _ hok.2.2.2; have := hok.1; omega
  have hx1 := hok.2.1
  obtain ⟨⟨q1, q2⟩, q3, q4⟩ := hs
  have h3 : ¬ 4096 ≤ (n : Int) := fun h => hf (.inl (by have := hok.2.2.1; omega))
  have h4 : ¬ 1099511627776 < x + k := fun h => hf (.inr h)
  obtain ⟨i, hi, hz0, hz1, hz2⟩ := info_parts Try.infoPiece
  have HI := hide hi; have HI0 := hide hz0; have HI1 := hide hz1; have HI2 := hide hz2
  clear hn ha hok hb2 hX hR hf hi hz0 hz1 hz2
  go_enter Try.func10, Try.ntmps10
  go_wp2_with fail
  generalize (w.alloc (.cells #[.int .i64 u, .int .i64 x, .slice a n cap] 29)).alloc (.cells #[.int .i64 0, .int .i64 0, .slice none 0 0] 29) = V at *
  refine CV.out.mono ?_
  rintro e w1 ⟨rfl, hw1⟩
  have CC := hide (l15Copy_walk u x a n cap os w1 HN.out (HA.out.below hw1 (Nat.le_refl _)) hm)
  have HR1 := hide (HR.out.next hw1)
  have HX1 := hide (HX.out.next hw1)
  have HB1 : Hid (Below w.heap.size w w1) := hide (HB2.out.trans (hw1.mono HB2.out.size))
  have hV1 := hw1.size
  clear hw1 CV k0 k1 k2 HB2 HX HR
  have k0 := HX1.out.cell 0 _ rfl; have k1 := HX1.out.cell 1 _ rfl; have k2 := HX1.out.cell 2 _ rfl
  go_wp2_with (go_at_call 23; refine (In_walk _ _ _ _).mono ?_; rintro e w9 ⟨rfl, hq⟩; rw [hq]; clear hq)
  refine CC.out.mono ?_
  rintro e w2 ⟨v, rfl, hO, hw2⟩
  obtain ⟨bz, nz, rfl⟩ := hO.form
  have HR2 := hide (HR1.out.next hw2)
  have HX2 := hide (HX1.out.next hw2)
  have HB3 : Hid (Below w.heap.size w w2) := hide (HB1.out.trans (hw2.mono HB1.out.size))
  have HO := hide hO
  have hBB : w.heap.size + 2 ≤ w1.heap.size + 2 := by omega
  have hsz2 : w1.heap.size ≤ w2.heap.size := hw2.size
  clear hO hw2 CC HB1 HR1 HX1 k0 k1 k2
  have k0 := HX2.out.cell 0 _ rfl; have k1 := HX2.out.cell 1 _ rfl; have k2 := HX2.out.cell 2 _ rfl; have kf := HX2.out.frozen
  go_upto_region 6 with fail
  have HX3 := hide (hv_set (hv_set (hv_set HX2.out 0 (.int .i64 u)) 1 (.int .i64 x)) 2 (.slice bz n nz))
  have HR3 := hide (hv_other (hv_other (hv_other HR2.out (C := w.heap.size) (by omega) 0 (.int .i64 u)) (C := w.heap.size) (by omega) 1 (.int .i64 x)) (C := w.heap.size) (by omega) 2 (.slice bz n nz))
  have hg3 : w2.grownBy (((w2.setCell ⟨w.heap.size, 0, none⟩ (.int .i64 u)).setCell ⟨w.heap.size, 1, none⟩ (.int .i64 x)).setCell ⟨w.heap.size, 2, none⟩ (.slice bz n nz)) (some w.heap.size) := gr_set (gr_set (gr_set (grown_reflp _ _) 0 _) 1 _) 2 _
  have HO3 := hide (row_gr HO.out hg3 (by omega))
  have HB4 := hide (below_gr HB3.out hg3 HB3.out.size (Nat.le_refl _))
  clear k0 k1 k2 kf HX2 HR2 HO HB3 hg3
  generalize ((w2.setCell ⟨w.heap.size, 0, none⟩ (.int .i64 u)).setCell ⟨w.heap.size, 1, none⟩ (.int .i64 x)).setCell ⟨w.heap.size, 2, none⟩ (.slice bz n nz) = W at *
  clear hsz2
  have hBB2 : w.heap.size + 2 ≤ w1.heap.size + 2 := hBB
  generalize w1.heap.size + 2 = BB at *
  have hRl := HR3.out.lt
  have k0 := HX3.out.cell 0 _ rfl; have k1 := HX3.out.cell 1 _ rfl; have k2 := HX3.out.cell 2 _ rfl
  have hal : Below W.heap.size W (W.alloc (.cells #[.int .i64 x, .int .i64 (x + k), .int .i64 t, .int .i64 1, .bool false, .bool false] 48)) := (Below.refl _ _).alloc (Nat.le_refl _) _
  have HPL : Hid (HoldV (W.alloc (.cells #[.int .i64 x, .int .i64 (x + k), .int .i64 t, .int .i64 1, .bool false, .bool false] 48)) W.heap.size _ 48) := hide (hv_new _ _ _)
  have HO4 := hide (row_mono (HO3.out.next hal) hBB2)
  have HX4 := hide (HX3.out.next hal)
  have HR4 := hide (HR3.out.next hal)
  have HB5 := hide (HB4.out.trans (hal.mono HB4.out.size))
  have hsa : (W.alloc (.cells #[.int .i64 x, .int .i64 (x + k), .int .i64 t, .int .i64 1, .bool false, .bool false] 48)).heap.size = W.heap.size + 1 := World.size_alloc _ _
  have l0 := HX4.out.cell 0 _ rfl; have l1 := HX4.out.cell 1 _ rfl; have l2 := HX4.out.cell 2 _ rfl; have lf := HX4.out.frozen
  clear hal HO3 HX3 HR3 HB4
  go_wp2_with (at_builtin; refine wpList_append_own _ rfl _ _ 27 rfl (w.heap.size + 2) 48 i _ 6 40 Try.underlying27 HI.out HI0.out HI1.out HI2.out rfl (by decide) (.slice bz n nz) n (os.flatMap valPiece) rfl HO4.out ⟨W.heap.size, 0, none⟩ 1 1 (valPiece (newP x k t)) rfl rfl (pc_cells HPL.out) (val_one1 _) (by unfold maxLen; omega) (by omega) (by omega) ?_)
  intro v' w3 hown' hgrow _
  have HO5 : Hid (RowP w3 (w.heap.size + 2) v' (n + 1) (os ++ [newP x k t])) := hide (by unfold RowP; rw [List.flatMap_append]; simpa using hown')
  clear hown'
  obtain ⟨bq, nq, hv'⟩ := HO5.out.form
  subst hv'
  have hkeep : ∀ b, b < w.heap.size + 2 → w3.heap[b]? = (W.alloc (.cells #[.int .i64 x, .int .i64 (x + k), .int .i64 t, .int .i64 1, .bool false, .bool false] 48)).heap[b]? := fun b hb => hgrow.block b (by omega) (fun e => by have := ownsAt.lt (ownsAt.of_row HO4.out) b e.symm; omega)
  have HX5 : Hid (HoldV w3 w.heap.size _ 29) := hide ((hkeep _ (by omega)).trans HX4.out)
  have HR5 : Hid (HoldV w3 (w.heap.size + 1) _ 29) := hide ((hkeep _ (by omega)).trans HR4.out)
  have HB6 : Hid (Below w.heap.size w w3) := hide (HB5.out.trans ⟨hgrow.os, hgrow.tape, hgrow.output, hgrow.size, fun b hb => hkeep b (by omega)⟩)
  clear hkeep hgrow HO4 HX4 HR4 HB5 HPL hsa l0 l1 l2 lf k0 k1 k2
  have l0 := HX5.out.cell 0 _ rfl; have l1 := HX5.out.cell 1 _ rfl; have l2 := HX5.out.cell 2 _ rfl; have lf := HX5.out.frozen
  go_upto_region 8 with fail
  have HX6 := hide (hv_set (hv_set HX5.out 2 (.slice bq (n + 1) nq)) 1 (.int .i64 (x + k)))
  have HR6 := hide (hv_other (hv_other HR5.out (C := w.heap.size) (by omega) 2 (.slice bq (n + 1) nq)) (C := w.heap.size) (by omega) 1 (.int .i64 (x + k)))
  have hg6 : w3.grownBy ((w3.setCell ⟨w.heap.size, 2, none⟩ (.slice bq (n + 1) nq)).setCell ⟨w.heap.size, 1, none⟩ (.int .i64 (x + k))) (some w.heap.size) := gr_set (gr_set (grown_reflp _ _) 2 _) 1 _
  have HO6 := hide (row_gr HO5.out hg6 (by omega))
  have HB7 := hide (below_gr HB6.out hg6 HB6.out.size (Nat.le_refl _))
  clear hg6 HO5 HX5 HR5 HB6 l0 l1 l2 lf
  generalize (w3.setCell ⟨w.heap.size, 2, none⟩ (.slice bq (n + 1) nq)).setCell ⟨w.heap.size, 1, none⟩ (.int .i64 (x + k)) = w4 at *
  have l0 := HX6.out.cell 0 _ rfl; have l1 := HX6.out.cell 1 _ rfl; have l2 := HX6.out.cell 2 _ rfl
  have r0 := HR6.out.cell 0 _ rfl; have r1 := HR6.out.cell 1 _ rfl; have r2 := HR6.out.cell 2 _ rfl; have rf := HR6.out.frozen
  go_wp2_with fail
  exact bodyPost_ret (v := .tuple #[.agg #[.int .i64 u, .int .i64 (x + k), .slice bq (n + 1) nq], .int .i64 0]) (by simp [results, Try.results10, go_sem, r0, r1, r2]) rfl ⟨_, rfl, ownP_mono (row_own (row_gr HO6.out (gr_set (gr_set (gr_set (grown_reflp _ _) 0 _) 1 _) 2 _) (by omega)) (by rw [List.length_append, List.length_singleton, HN.out])) (by omega), below_gr HB7.out (gr_set (gr_set (gr_set (grown_reflp _ _) 0 _) 1 _) 2 _) HB7.out.size (Nat.le_succ _)⟩
set_option maxRecDepth 100000
/-- How much is lost, and how much is told to be there. -/
def lostS : List PieceM → Int
  | [] => 0
  | o :: r => (if o.f5 = true then o.f1 - o.f0 else 0) + lostS r
def sackS : List PieceM → Int
  | [] => 0
  | o :: r => (if o.f5 = false ∧ o.f4 = true then o.f1 - o.f0 else 0) + sackS r
theorem lostS_app : ∀ (a b : List PieceM), lostS (a ++ b) = lostS a + lostS b
  | [], b => by simp [lostS]
  | o :: a, b => by show _ + lostS (a ++ b) = _ + lostS a + lostS b; rw [lostS_app a b]; omega
theorem sackS_app : ∀ (a b : List PieceM), sackS (a ++ b) = sackS a + sackS b
  | [], b => by simp [sackS]
  | o :: a, b => by show _ + sackS (a ++ b) = _ + sackS a + sackS b; rw [sackS_app a b]; omega
/-- On the way, lost and told to be there is together all. -/
theorem parts_sum : ∀ (os : List PieceM) (u m : Int), chk u os = some m → pipeS os + lostS os + sackS os = m - u
  | [], u, m, h => by cases h; simp [pipeS, lostS, sackS]
  | o :: r, u, m, h => by
    by_cases hh : o.f0 = u ∧ vp o
    · rw [chk_cons hh.1 hh.2] at h
      have ih := parts_sum r _ _ h
      have h1 := hh.1
      obtain ⟨x0, x1, x2, x3, x4, x5⟩ := o
      show ((if x4 = false ∧ x5 = false then x1 - x0 else 0) + pipeS r) + ((if x5 = true then x1 - x0 else 0) + lostS r) + ((if x5 = false ∧ x4 = true then x1 - x0 else 0) + sackS r) = m - u
      have h1' : x0 = u := h1
      have ih' : pipeS r + lostS r + sackS r = m - x1 := ih
      cases x4 <;> cases x5 <;> simp <;> omega
    · rw [chk_ill hh] at h; cases h
theorem cutF_parts {k : Int} : ∀ (f : Nat) (o : PieceM), pipeS (cutF f k o) = pipeS [o] ∧ lostS (cutF f k o) = lostS [o] ∧ sackS (cutF f k o) = sackS [o]
  | 0, o => ⟨rfl, rfl, rfl⟩
  | f + 1, o => by
    unfold cutF
    by_cases h : k < o.f1 - o.f0
    · rw [if_pos h]
      obtain ⟨h1, h2, h3⟩ := cutF_parts (k := k) f ⟨o.f0 + k, o.f1, o.f2, o.f3, o.f4, o.f5⟩
      obtain ⟨x0, x1, x2, x3, x4, x5⟩ := o
      refine ⟨?_, ?_, ?_⟩
      · show (if x4 = false ∧ x5 = false then x0 + k - x0 else 0) + pipeS _ = (if x4 = false ∧ x5 = false then x1 - x0 else 0) + 0
        rw [h1]
        show _ + ((if x4 = false ∧ x5 = false then x1 - (x0 + k) else 0) + 0) = _
        split <;> omega
      · show (if x5 = true then x0 + k - x0 else 0) + lostS _ = (if x5 = true then x1 - x0 else 0) + 0
        rw [h2]
        show _ + ((if x5 = true then x1 - (x0 + k) else 0) + 0) = _
        split <;> omega
      · show (if x5 = false ∧ x4 = true then x0 + k - x0 else 0) + sackS _ = (if x5 = false ∧ x4 = true then x1 - x0 else 0) + 0
        rw [h3]
        show _ + ((if x5 = false ∧ x4 = true then x1 - (x0 + k) else 0) + 0) = _
        split <;> omega
    · rw [if_neg h]; exact ⟨rfl, rfl, rfl⟩
/-- Cutting changes none of the three. -/
theorem split_parts (k : Int) : ∀ os : List PieceM, pipeS (splitL k os) = pipeS os ∧ lostS (splitL k os) = lostS os ∧ sackS (splitL k os) = sackS os
  | [] => ⟨rfl, rfl, rfl⟩
  | o :: r => by
    obtain ⟨h1, h2, h3⟩ := split_parts k r
    obtain ⟨g1, g2, g3⟩ := cutF_parts (k := k) (o.f1 - o.f0).toNat o
    rw [splitL_cons, pipeS_app, lostS_app, sackS_app, h1, h2, h3]
    unfold cutL
    rw [g1, g2, g3]
    refine ⟨?_, ?_, ?_⟩
    · simp [pipeS]
    · simp [lostS]
    · simp [sackS]
/-- What an acknowledgement moves. -/
theorem ack_parts {ack x : Int} {zs : List Int} : ∀ (os : List PieceM) (u m : Int), chk u os = some m → ackG ack x zs os ≤ sackS (ackL ack x zs os) ∧ sackS (ackL ack x zs os) ≤ sackS os + ackG ack x zs os
  | [], u, m, h => by simp [ackG, ackL, sackS]
  | o :: r, u, m, h => by
    by_cases hh : o.f0 = u ∧ vp o
    · rw [chk_cons hh.1 hh.2] at h
      obtain ⟨h1, h2⟩ := ack_parts (ack := ack) (x := x) (zs := zs) r _ _ h
      have hv := hh.2.1
      have hn := hh.2.2.2.2
      rw [show o :: r = [o] ++ r from rfl, ackL_app, ackG_app, sackS_app, sackS_app]
      have key : ackG ack x zs [o] ≤ sackS (ackL ack x zs [o]) ∧ sackS (ackL ack x zs [o]) ≤ sackS [o] + ackG ack x zs [o] := by
        by_cases hg : o.f1 ≤ ack
        · rw [(ack_gone hg).1, (ack_gone hg).2]
          simp only [sackS]
          split <;> omega
        · rw [ack_keep hg]
          have hg2 : ack < o.f1 := Int.not_le.1 hg
          by_cases hb : nwB ack x zs o = true
          · have e : ackF ack x zs o = ⟨max o.f0 ack, o.f1, o.f2, o.f3, true, false⟩ := if_pos hb
            have eg : ackG ack x zs [o] = o.f1 - max o.f0 ack := by show (if ack < o.f1 ∧ nwB ack x zs o = true then _ else _) + 0 = _; rw [if_pos ⟨hg2, hb⟩, Int.add_zero]
            have es : sackS [(⟨max o.f0 ack, o.f1, o.f2, o.f3, true, false⟩ : PieceM)] = o.f1 - max o.f0 ack := by simp [sackS]
            have hs0 : 0 ≤ sackS [o] := by simp only [sackS]; split <;> omega
            rw [e, eg, es]
            omega
          · have e : ackF ack x zs o = ⟨max o.f0 ack, o.f1, o.f2, o.f3, o.f4, o.f5⟩ := if_neg hb
            have eg : ackG ack x zs [o] = 0 := by show (if ack < o.f1 ∧ nwB ack x zs o = true then _ else _) + 0 = _; rw [if_neg (fun h => hb h.2)]; rfl
            rw [e, eg]
            simp only [sackS]
            split <;> omega
      omega
    · rw [chk_ill hh] at h; cases h
/-- A valid board stays valid. -/
theorem ackL_chk {ack x : Int} (zs : List Int) (hx : ack ≤ x) (os : List PieceM) (u : Int) (h : chk u os = some x) (hu : u ≤ ack) : chk ack (ackL ack x zs os) = some x := by
  rw [← (sac_ackH ack x zs os).1]
  have h1 := ackH_chk hx os u h hu
  generalize ackH ack os = ps at h1
  clear h hu hx
  suffices hs : ∀ (ps : List PieceM) (v : Int), chk v ps = some x → chk v (ps.map (sacF ack x zs)) = some x from hs ps ack h1
  intro ps
  induction ps with
  | nil => intro v h; exact h
  | cons o r ih =>
    intro v h
    by_cases hh : o.f0 = v ∧ vp o
    · rw [chk_cons hh.1 hh.2] at h
      have h0 : (sacF ack x zs o).f0 = o.f0 ∧ (sacF ack x zs o).f1 = o.f1 ∧ vp (sacF ack x zs o) := by
        unfold sacF
        split
        · exact ⟨rfl, rfl, hh.2.1, hh.2.2.1, hh.2.2.2.1, fun hc => by simp at hc⟩
        · exact ⟨rfl, rfl, hh.2⟩
      rw [List.map_cons, chk_cons (h0.1.trans hh.1) h0.2.2, h0.2.1]
      exact ih _ h
    · rw [chk_ill hh] at h; cases h

theorem lose_parts : ∀ os : List PieceM, pipeS (loseL os) = pipeS os - loseN os ∧ lostS (loseL os) = lostS os + loseN os ∧ sackS (loseL os) = sackS os
  | [] => ⟨rfl, rfl, rfl⟩
  | o :: r => by
    obtain ⟨h1, h2, h3⟩ := lose_parts r
    by_cases hm : mustL o r
    · have e : loseL (o :: r) = lostP o :: loseL r := by show (if mustL o r then lostP o else o) :: loseL r = _; rw [if_pos hm]
      have en : loseN (o :: r) = o.f1 - o.f0 + loseN r := by show (if mustL o r then _ else _) + loseN r = _; rw [if_pos hm]
      rw [e, en]
      simp only [pipeS, lostS, sackS, lostP, hm.2.1, hm.2.2.1, h1, h2, h3]
      refine ⟨?_, ?_, ?_⟩ <;> simp <;> omega
    · have e : loseL (o :: r) = o :: loseL r := by show (if mustL o r then lostP o else o) :: loseL r = _; rw [if_neg hm]
      have en : loseN (o :: r) = loseN r := by show (if mustL o r then _ else _) + loseN r = _; rw [if_neg hm, Int.zero_add]
      rw [e, en]
      simp only [pipeS, lostS, sackS, h1, h2, h3]
      refine ⟨by omega, by omega, trivial⟩
theorem first_parts (os : List PieceM) : pipeS (firstL os) = pipeS os - firstN os ∧ lostS (firstL os) = lostS os + firstN os ∧ sackS (firstL os) = sackS os := by
  cases os with
  | nil => exact ⟨rfl, rfl, rfl⟩
  | cons o r =>
    by_cases hm : o.f4 = false ∧ o.f5 = false
    · have e : firstL (o :: r) = lostP o :: r := by show (if o.f4 = false ∧ o.f5 = false then lostP o else o) :: r = _; rw [if_pos hm]
      have en : firstN (o :: r) = o.f1 - o.f0 := if_pos hm
      rw [e, en]
      simp only [pipeS, lostS, sackS, lostP, hm.1, hm.2]
      refine ⟨?_, ?_, ?_⟩ <;> simp <;> omega
    · have e : firstL (o :: r) = o :: r := by show (if o.f4 = false ∧ o.f5 = false then lostP o else o) :: r = _; rw [if_neg hm]
      have en : firstN (o :: r) = 0 := if_neg hm
      rw [e, en]
      exact ⟨by omega, by omega, rfl⟩
theorem again_parts (t : Int) (a b : List PieceM) (q : PieceM) (h5 : q.f5 = true) (h4 : q.f4 = false) : pipeS (a ++ againP t q :: b) = pipeS (a ++ q :: b) + (q.f1 - q.f0) ∧ lostS (a ++ againP t q :: b) = lostS (a ++ q :: b) - (q.f1 - q.f0) ∧ sackS (a ++ againP t q :: b) = sackS (a ++ q :: b) := by
  rw [pipeS_app, pipeS_app, lostS_app, lostS_app, sackS_app, sackS_app]
  simp only [pipeS, lostS, sackS, againP, h4, h5]
  refine ⟨?_, ?_, ?_⟩ <;> simp <;> omega
theorem lost_none : ∀ os : List PieceM, (∀ o ∈ os, o.f5 = false) → lostS os = 0
  | [], _ => rfl
  | o :: r, h => by
    have h1 := lost_none r (fun p hp => h p (by simp [hp]))
    show (if o.f5 = true then o.f1 - o.f0 else 0) + lostS r = 0
    rw [h1, h o (by simp)]
    simp
theorem lost_pos : ∀ os : List PieceM, (∀ o ∈ os, o.f0 < o.f1) → 0 ≤ lostS os
  | [], _ => Int.le_refl _
  | o :: r, h => by
    have h1 := lost_pos r (fun p hp => h p (by simp [hp]))
    have h2 := h o (by simp)
    show 0 ≤ (if o.f5 = true then o.f1 - o.f0 else 0) + lostS r
    split <;> omega
theorem lost_some {a b : List PieceM} {q : PieceM} (h : ∀ o ∈ a ++ q :: b, o.f0 < o.f1) (h5 : q.f5 = true) : 0 < lostS (a ++ q :: b) := by
  have h1 := lost_pos a (fun p hp => h p (by simp [hp]))
  have h2 := lost_pos b (fun p hp => h p (by simp [hp]))
  have h3 := h q (by simp)
  rw [lostS_app]
  show 0 < lostS a + ((if q.f5 = true then q.f1 - q.f0 else 0) + lostS b)
  rw [if_pos h5]
  omega
/-- A piece changed so that it lies where it lay stays in the chain. -/
theorem chk_one {a b : List PieceM} {q p : PieceM} {u x : Int} (h : chk u (a ++ q :: b) = some x) (h0 : p.f0 = q.f0) (h1 : p.f1 = q.f1) (hv : vp q → vp p) : chk u (a ++ p :: b) = some x := by
  induction a generalizing u with
  | nil =>
    by_cases hh : q.f0 = u ∧ vp q
    · rw [List.nil_append, chk_cons hh.1 hh.2] at h
      rw [List.nil_append, chk_cons (h0.trans hh.1) (hv hh.2), h1]
      exact h
    · rw [List.nil_append, chk_ill hh] at h; cases h
  | cons o a ih =>
    by_cases hh : o.f0 = u ∧ vp o
    · rw [List.cons_append, chk_cons hh.1 hh.2] at h
      rw [List.cons_append, chk_cons hh.1 hh.2]
      exact ih h
    · rw [List.cons_append, chk_ill hh] at h; cases h
theorem vp_lost {o : PieceM} (h : vp o) : vp (lostP o) := ⟨h.1, h.2.1, h.2.2.1, fun hc => by cases hc.1⟩
theorem loseL_chk : ∀ (os : List PieceM) (u x : Int), chk u os = some x → chk u (loseL os) = some x
  | [], _, _, h => h
  | o :: r, u, x, h => by
    by_cases hh : o.f0 = u ∧ vp o
    · rw [chk_cons hh.1 hh.2] at h
      have ih := loseL_chk r _ _ h
      show chk u ((if mustL o r then lostP o else o) :: loseL r) = some x
      split
      · rw [chk_cons (o := lostP o) hh.1 (vp_lost hh.2)]; exact ih
      · rw [chk_cons hh.1 hh.2]; exact ih
    · rw [chk_ill hh] at h; cases h
theorem firstL_chk (os : List PieceM) (u x : Int) (h : chk u os = some x) : chk u (firstL os) = some x := by
  cases os with
  | nil => exact h
  | cons o r =>
    show chk u ((if o.f4 = false ∧ o.f5 = false then lostP o else o) :: r) = some x
    split
    · exact chk_one (a := []) h rfl rfl vp_lost
    · exact h

theorem cutF_chk {k : Int} (hk : 1 ≤ k) : ∀ (f : Nat) (o : PieceM) (u : Int) (r : List PieceM), o.f0 = u → vp o → chk u (cutF f k o ++ r) = chk o.f1 r
  | 0, o, u, r, h0, hv => chk_cons h0 hv
  | f + 1, o, u, r, h0, hv => by
    unfold cutF
    by_cases h : k < o.f1 - o.f0
    · rw [if_pos h, List.cons_append, chk_cons (o := ⟨o.f0, o.f0 + k, o.f2, o.f3, o.f4, o.f5⟩) h0 ⟨by show o.f0 < o.f0 + k; omega, hv.2⟩]
      exact cutF_chk hk f ⟨o.f0 + k, o.f1, o.f2, o.f3, o.f4, o.f5⟩ _ r rfl ⟨by show o.f0 + k < o.f1; omega, hv.2⟩
    · rw [if_neg h]; exact chk_cons h0 hv
theorem splitL_chk {k : Int} (hk : 1 ≤ k) : ∀ (os : List PieceM) (u x : Int), chk u os = some x → chk u (splitL k os) = some x
  | [], _, _, h => h
  | o :: r, u, x, h => by
    by_cases hh : o.f0 = u ∧ vp o
    · rw [chk_cons hh.1 hh.2] at h
      rw [splitL_cons]
      unfold cutL
      rw [cutF_chk hk _ o u _ hh.1 hh.2]
      exact splitL_chk hk r _ _ h
    · rw [chk_ill hh] at h; cases h
theorem chk_snoc {p : PieceM} : ∀ (os : List PieceM) (u x : Int), chk u os = some x → p.f0 = x → vp p → chk u (os ++ [p]) = some p.f1
  | [], u, x, h, h0, hv => by cases h; exact (chk_cons h0 hv).trans rfl
  | o :: r, u, x, h, h0, hv => by
    by_cases hh : o.f0 = u ∧ vp o
    · rw [chk_cons hh.1 hh.2] at h
      rw [List.cons_append, chk_cons hh.1 hh.2]
      exact chk_snoc r _ x h h0 hv
    · rw [chk_ill hh] at h; cases h
theorem send_parts (os : List PieceM) (x k t : Int) : pipeS (os ++ [⟨x, x + k, t, 1, false, false⟩]) = pipeS os + k ∧ lostS (os ++ [⟨x, x + k, t, 1, false, false⟩]) = lostS os ∧ sackS (os ++ [⟨x, x + k, t, 1, false, false⟩]) = sackS os := by
  rw [pipeS_app, lostS_app, sackS_app]
  simp only [pipeS, lostS, sackS]
  refine ⟨?_, ?_, ?_⟩ <;> simp <;> omega
/-- An acknowledgement of all leaves nothing. -/
theorem ack_all {u x : Int} {os : List PieceM} (h : bOK u x os) (zs : List Int) : ackL x x zs os = [] := by
  have h1 : ∀ p ∈ os, p.f1 ≤ x := fun p hp => (chk_mem os u x h.2.2.2 p hp).2.1
  rw [← (sac_ackH x x zs os).1, ackH_gone os h1]
  rfl

theorem lost_ge {u x : Int} : ∀ (a : List PieceM) (u m : Int), chk u a = some m → 0 ≤ pipeS a ∧ 0 ≤ lostS a ∧ 0 ≤ sackS a
  | [], u, m, h => by cases h; simp [pipeS, lostS, sackS]
  | o :: a, u, m, h => by
    by_cases hh : o.f0 = u ∧ vp o
    · rw [chk_cons hh.1 hh.2] at h
      have h1 := lost_ge (u := u) (x := x) a _ _ h
      have h2 := hh.2.1
      unfold pipeS lostS sackS
      refine ⟨?_, ?_, ?_⟩ <;> split <;> omega
    · rw [chk_ill hh] at h; cases h
theorem bOK_three {u x : Int} {a b : List PieceM} (h : bOK u x (a ++ b)) : 0 ≤ pipeS a ∧ 0 ≤ lostS a ∧ 0 ≤ sackS a ∧ pipeS a + lostS a + sackS a ≤ 1099511627776 := by
  obtain ⟨m, h1, h2⟩ := chk_app a b _ _ h.2.2.2
  have h3 := lost_ge (u := u) (x := x) _ _ _ h1
  have h5 := parts_sum _ _ _ h1
  have h4 := chk_le _ _ _ h2
  have := h.1; have := h.2.1
  omega
theorem lostS_one (o : PieceM) : lostS [o] = if o.f5 = true then o.f1 - o.f0 else 0 := Int.add_zero _
theorem sackS_one (o : PieceM) : sackS [o] = if o.f5 = false ∧ o.f4 = true then o.f1 - o.f0 else 0 := Int.add_zero _
theorem pipeS_one (o : PieceM) : pipeS [o] = if o.f4 = false ∧ o.f5 = false then o.f1 - o.f0 else 0 := Int.add_zero _
theorem ret_three {a b c a' b' c' : Int} (h1 : a = a') (h2 : b = b') (h3 : c = c') : Ending.returned (.tuple #[.int .i64 a, .int .i64 b, .int .i64 c]) = .returned (.tuple #[.int .i64 a', .int .i64 b', .int .i64 c']) := by rw [h1, h2, h3]
set_option maxHeartbeats 8000000 in
theorem lwParts_walk {u x : Int} {os : List PieceM} (hok : bOK u x os) (a : Option Addr) (n cap : Nat) (w : World) (hn : os.length = n) (ha : ArrP w a (os.flatMap valPiece)) :
    Calls Try.prog 8 #[.agg #[.int .i64 u, .int .i64 x, .slice a n cap]] w fun e w' => e = .returned (.tuple #[.int .i64 (pipeS os), .int .i64 (lostS os), .int .i64 (sackS os)]) ∧ Below w.heap.size w w' := by
  have HB0 := hide (BoxV.start w #[.int .i64 u, .int .i64 x, .slice a n cap] 29)
  have k0 := HB0.out.cell 0 _ rfl; have k1 := HB0.out.cell 1 _ rfl; have k2 := HB0.out.cell 2 _ rfl
  have HN := hide hn; have HA := hide ha; have HOK := hide hok
  have hm : n ≤ 4096 := by have := hok.2.2.1; omega
  clear hn ha hok
  go_enter Try.func8, Try.ntmps8
  go_wp2_with fail
  clear k0 k1 k2
  go_loopw [5, 6, 7, 8] (fun s1 s2 s3 t w2 => ∃ i : Nat, i ≤ n ∧ t = .int .i64 i ∧ s1 = .int .i64 (pipeS (os.take i)) ∧ s2 = .int .i64 (lostS (os.take i)) ∧ s3 = .int .i64 (sackS (os.take i)) ∧ Hid (BoxV w w2 #[.int .i64 u, .int .i64 x, .slice a n cap] 29)) (fun _ _ _ t _ => n - (intOf t).toNat)
  case atStart => exact ⟨0, Nat.zero_le _, rfl, rfl, rfl, rfl, HB0⟩
  case round =>
    obtain ⟨i, hi, rfl, rfl, rfl, rfl, HB⟩ := hrel
    have b2 := HB.out.cell 2 _ rfl
    by_cases hlt : i < n
    · have hio : i < os.length := by rw [HN.out]; exact hlt
      obtain ⟨b, off, rfl, hbs, c0, c1, c2, c3, c4, c5⟩ := piece_cells (HA.out.below HB.out.1 (Nat.le_refl _)) hio
      have H1 : Hid (pipeS (os.take (i + 1)) = pipeS (os.take i) + (if os[i].f4 = false ∧ os[i].f5 = false then os[i].f1 - os[i].f0 else 0)) := hide (by rw [take_snoc0 hio, pipeS_app, pipeS_one])
      have H2 : Hid (lostS (os.take (i + 1)) = lostS (os.take i) + (if os[i].f5 = true then os[i].f1 - os[i].f0 else 0)) := hide (by rw [take_snoc0 hio, lostS_app, lostS_one])
      have H3 : Hid (sackS (os.take (i + 1)) = sackS (os.take i) + (if os[i].f5 = false ∧ os[i].f4 = true then os[i].f1 - os[i].f0 else 0)) := hide (by rw [take_snoc0 hio, sackS_app, sackS_one])
      obtain ⟨s0, s1, s2, s3⟩ := bOK_three (a := os.take i) (b := os.drop i) (by rw [List.take_append_drop]; exact HOK.out)
      obtain ⟨q0, q1, q2⟩ : 0 ≤ os[i].f0 ∧ os[i].f0 < os[i].f1 ∧ os[i].f1 ≤ 1099511627776 := bOK_piece HOK.out (List.getElem_mem hio)
      generalize pipeS (os.take i) = s at *
      generalize lostS (os.take i) = r at *
      generalize sackS (os.take i) = q at *
      generalize os[i] = o at *
      obtain ⟨x0, x1, x2, x3, x4, x5⟩ := o
      dsimp only at c0 c1 c2 c3 c4 c5 q0 q1 q2 H1 H2 H3
      cases x5 with
      | true =>
        have G1 : Hid (pipeS (os.take (i + 1)) = s) := hide (by rw [H1.out]; simp)
        have G2 : Hid (lostS (os.take (i + 1)) = r + (x1 - x0)) := hide (by rw [H2.out]; simp)
        have G3 : Hid (sackS (os.take (i + 1)) = q) := hide (by rw [H3.out]; simp)
        clear H1 H2 H3
        go_wp2_with fail
        go_region
        go_wp2_with fail
        exact ⟨⟨i + 1, by omega, by go_num, by rw [G1.out], by rw [G2.out], by rw [G3.out], hide (HB.out.next (below_drewN (Below.refl _ _) _))⟩, by simp [intOf]; omega⟩
      | false =>
        cases x4 with
        | true =>
          have G1 : Hid (pipeS (os.take (i + 1)) = s) := hide (by rw [H1.out]; simp)
          have G2 : Hid (lostS (os.take (i + 1)) = r) := hide (by rw [H2.out]; simp)
          have G3 : Hid (sackS (os.take (i + 1)) = q + (x1 - x0)) := hide (by rw [H3.out]; simp)
          clear H1 H2 H3
          go_wp2_with fail
          go_region
          go_wp2_with fail
          exact ⟨⟨i + 1, by omega, by go_num, by rw [G1.out], by rw [G2.out], by rw [G3.out], hide (HB.out.next (below_drewN (Below.refl _ _) _))⟩, by simp [intOf]; omega⟩
        | false =>
          have G1 : Hid (pipeS (os.take (i + 1)) = s + (x1 - x0)) := hide (by rw [H1.out]; simp)
          have G2 : Hid (lostS (os.take (i + 1)) = r) := hide (by rw [H2.out]; simp)
          have G3 : Hid (sackS (os.take (i + 1)) = q) := hide (by rw [H3.out]; simp)
          clear H1 H2 H3
          go_wp2_with fail
          go_region
          go_wp2_with fail
          exact ⟨⟨i + 1, by omega, by go_num, by rw [G1.out], by rw [G2.out], by rw [G3.out], hide (HB.out.next (below_drewN (Below.refl _ _) _))⟩, by simp [intOf]; omega⟩
    · have hin : i = n := by omega
      subst hin
      have F1 : Hid (pipeS (os.take i) = pipeS os) := hide (by rw [List.take_of_length_le (by rw [HN.out]; exact Nat.le_refl _)])
      have F2 : Hid (lostS (os.take i) = lostS os) := hide (by rw [List.take_of_length_le (by rw [HN.out]; exact Nat.le_refl _)])
      have F3 : Hid (sackS (os.take i) = sackS os) := hide (by rw [List.take_of_length_le (by rw [HN.out]; exact Nat.le_refl _)])
      generalize pipeS (os.take i) = s at *
      generalize lostS (os.take i) = r at *
      generalize sackS (os.take i) = q at *
      go_wp2_with fail
      exact bodyPost_ret (v := .tuple #[.int .i64 s, .int .i64 r, .int .i64 q]) (by simp [results, Try.results8, go_sem]) rfl ⟨ret_three F1.out F2.out F3.out, HB.out.1⟩
set_option maxRecDepth 100000
/-- A source of numbers in block g: its code's bytes zs, a place in them, a state. -/
def Src (w : World) (g t : Nat) (zs : List Int) : Prop :=
  ∃ (a : Option Addr) (cap : Nat) (pos st : Int), w.heap[g]? = some (.cells #[.slice a zs.length cap, .int .i64 pos, .int .u64 st] t) ∧ Arr w a zs ∧ 0 ≤ pos ∧ pos ≤ (zs.length : Int) ∧ 0 ≤ st ∧ st ≤ 18446744073709551615
theorem src_cells {w : World} {g t : Nat} {a b c : Value} (h : w.heap[g]? = some (.cells #[a, b, c] t)) :
    w.cell? ⟨g, 0, none⟩ = some a ∧ w.cell? ⟨g, 1, none⟩ = some b ∧ w.cell? ⟨g, 2, none⟩ = some c ∧ ∀ o, w.frozen? ⟨g, o, none⟩ = false :=
  ⟨cell_of_row w g 0 _ _ _ h, cell_of_row w g 1 _ _ _ h, cell_of_row w g 2 _ _ _ h, fun o => frozen_of_row w g o _ _ h⟩
theorem wrap_u64_bd (n : Int) : 0 ≤ IntKind.u64.wrap n ∧ IntKind.u64.wrap n ≤ 18446744073709551615 := by rw [wrap_u64]; omega
theorem xor_u64_bd (x y : Int) : 0 ≤ bits .xor .u64 x y ∧ bits .xor .u64 x y ≤ 18446744073709551615 := by
  have h := wf_bits .xor .u64 x y
  simpa [Lit.wf, IntKind.min, IntKind.max, IntKind.signed, IntKind.bits] using h
/-- A store into the block of a source changes nothing else. -/
theorem src_set {w : World} {g t j : Nat} {cur : Array Value} (u : Value) (h : w.heap[g]? = some (.cells cur t)) :
    (w.setCell ⟨g, j, none⟩ u).heap[g]? = some (.cells (cur.setIfInBounds j u) t) ∧ w.grownBy (w.setCell ⟨g, j, none⟩ u) (some g) :=
  ⟨heap_setCell_same w g j cur t u h, ⟨rfl, rfl, rfl, by simp, fun k _ hk => heap_setCell_other w ⟨g, j, none⟩ k u (fun e => hk (by simp [e]))⟩⟩
theorem grown_drewN {a w : World} {row : Option Nat} (h : a.grownBy w row) (n : Nat) : a.grownBy (w.drewN n) row := ⟨h.os, h.tape, h.output, h.size, h.block⟩
/-- Bytes that lie outside block g are the same when that block is written. -/
theorem Arr.grown {w w' : World} {g t : Nat} {a : Option Addr} {x y z : Value} {zs : List Int} (h : Arr w a zs) (hg : w.grownBy w' (some g)) (hb : w.heap[g]? = some (.cells #[x, y, z] t))
    (hx : ∀ n, x ≠ .int .u8 n) (hy : ∀ n, y ≠ .int .u8 n) (hz : ∀ n, z ≠ .int .u8 n) : Arr w' a zs := by
  refine ⟨h.1, fun j hj => ?_⟩
  obtain ⟨b, off, ha, hlt, hc⟩ := h.2 j hj
  have hne : b ≠ g := by
    rintro rfl
    rw [cell_of_row w b (off + j) _ _ _ hb] at hc
    match hoj : off + j with
    | 0 => rw [hoj] at hc; simp at hc; exact hx _ hc
    | 1 => rw [hoj] at hc; simp at hc; exact hy _ hc
    | 2 => rw [hoj] at hc; simp at hc; exact hz _ hc
    | k + 3 => rw [hoj] at hc; simp at hc
  refine ⟨b, off, ha, Nat.lt_of_lt_of_le hlt hg.size, ?_⟩
  exact hg.cell hc (by simp [hne])
theorem rem_bd {x n : Int} (hx : 0 ≤ x) (hn : 0 < n) (hn1 : n ≤ 9223372036854775807) : 0 ≤ wrap64 (x.tmod n) ∧ wrap64 (x.tmod n) < n := by
  rw [Int.tmod_eq_emod_of_nonneg hx]
  have h1 := Int.emod_nonneg x (show n ≠ 0 by omega)
  have h2 := Int.emod_lt_of_pos x hn
  unfold wrap64
  omega
theorem rem_bd' {x n : Int} (hn : 0 < n) (hn1 : n ≤ 9223372036854775807) : 0 ≤ wrap64 (x % n) ∧ wrap64 (x % n) < n := by
  have h1 := Int.emod_nonneg x (show n ≠ 0 by omega)
  have h2 := Int.emod_lt_of_pos x hn
  unfold wrap64
  omega

theorem Src.below {B : Nat} {w w' : World} {g t : Nat} {zs : List Int} (h : Src w g t zs) (hb : Below B w w') (hB : w.heap.size ≤ B) : Src w' g t zs := by
  obtain ⟨a, cap, pos, st, hg, harr, hp0, hp1, hs0, hs1⟩ := h
  have hlt : g < w.heap.size := by
    by_cases hlt : g < w.heap.size
    · exact hlt
    · rw [Array.getElem?_eq_none (by omega)] at hg; cases hg
  exact ⟨a, cap, pos, st, by rw [hb.block g (by omega)]; exact hg, harr.below hb hB, hp0, hp1, hs0, hs1⟩
/-- A source of numbers in block g whose code is the slice (a, n, cap). -/
def SrcA (w : World) (g t n : Nat) (a : Option Addr) (cap : Nat) : Prop :=
  ∃ (pos st : Int), w.heap[g]? = some (.cells #[.slice a n cap, .int .i64 pos, .int .u64 st] t) ∧ 0 ≤ pos ∧ pos ≤ (n : Int) ∧ 0 ≤ st ∧ st ≤ 18446744073709551615
theorem SrcA.lt {w : World} {g t n : Nat} {a : Option Addr} {cap : Nat} (h : SrcA w g t n a cap) : g < w.heap.size := by
  obtain ⟨pos, st, hg, _⟩ := h
  by_cases hlt : g < w.heap.size
  · exact hlt
  · rw [Array.getElem?_eq_none (by omega)] at hg; cases hg
/-- Only what happens to its own block counts for a source. -/
theorem SrcA.same {w w' : World} {g t n : Nat} {a : Option Addr} {cap : Nat} (h : SrcA w g t n a cap) (hb : w'.heap[g]? = w.heap[g]?) : SrcA w' g t n a cap := by
  obtain ⟨pos, st, hg, r⟩ := h
  exact ⟨pos, st, by rw [hb]; exact hg, r⟩
theorem SrcA.alloc {w : World} {g t n : Nat} {a : Option Addr} {cap : Nat} (h : SrcA w g t n a cap) (o : Obj) : SrcA (w.alloc o) g t n a cap :=
  h.same (Below.heap_alloc w o g h.lt)
theorem SrcA.below {w w' : World} {B g t n : Nat} {a : Option Addr} {cap : Nat} (h : SrcA w g t n a cap) (hb : Below B w w') (hB : w.heap.size ≤ B) : SrcA w' g t n a cap :=
  h.same (hb.block g (Nat.lt_of_lt_of_le h.lt hB))
theorem SrcA.set {w : World} {g t n : Nat} {a : Option Addr} {cap : Nat} (h : SrcA w g t n a cap) {p : Addr} (hp : g ≠ p.block) (u : Value) : SrcA (w.setCell p u) g t n a cap :=
  h.same (heap_setCell_other w p g u hp)
/-- Bytes elsewhere are the same behind whatever leaves all but the source's block as it was. -/
theorem Arr.srcA {w w' : World} {g t n cap : Nat} {a b : Option Addr} {zs : List Int} (h : Arr w b zs) (hs : SrcA w g t n a cap) (hg : w.grownBy w' (some g)) : Arr w' b zs := by
  obtain ⟨pos, st, hb, _⟩ := hs
  exact h.grown hg hb (by simp) (by simp) (by simp)
theorem grown_drew {a w : World} {row : Option Nat} (h : a.grownBy w row) : a.grownBy w.drew row := ⟨h.os, h.tape, h.output, h.size, h.block⟩
theorem grown_below {a w w' : World} {row : Option Nat} (h : a.grownBy w row) (hb : Below w.heap.size w w') : a.grownBy w' row :=
  ⟨hb.os.trans h.os, hb.tape.trans h.tape, hb.output.trans h.output, Nat.le_trans h.size hb.size, fun k hk hr => (hb.block k (Nat.lt_of_lt_of_le hk h.size)).trans (h.block k hk hr)⟩
theorem below_grown {w w' : World} {g : Nat} {B : Nat} (hB : B ≤ g) (hw : B ≤ w.heap.size) (h : w.grownBy w' (some g)) : Below B w w' :=
  ⟨h.os, h.tape, h.output, h.size, fun k hk => h.block k (by omega) (by simp; omega)⟩

set_option maxHeartbeats 1000000 in
theorem l01Next_more (g : Nat) (n : Int) (zs : List Int) (w : World) (a : Option Addr) (cap k : Nat) (st : Int) (hb : w.heap[g]? = some (.cells #[.slice a zs.length cap, .int .i64 (k : Int), .int .u64 st] 54)) (harr : Arr w a zs)
    (hk : k < zs.length) (hs0 : 0 ≤ st) (hs1 : st ≤ 18446744073709551615) (hn : 0 < n) (hn1 : n ≤ 9223372036854775807) (hl : zs.length ≤ 2097152) :
    Calls Try.prog 54 #[.pointer (some ⟨g, 0, none⟩), .int .i64 n] w fun e w' => ∃ r : Int, e = .returned (.int .i64 r) ∧ 0 ≤ r ∧ r < n ∧ w.grownBy w' (some g) ∧ SrcA w' g 54 zs.length a cap := by
  obtain ⟨c0, c1, c2, hf⟩ := src_cells hb
  have HB := hide hb
  have HA := hide harr
  clear hb harr
  generalize hlen : zs.length = len at *
  have HL := hide hlen
  clear hlen
  go_enter Try.func54, Try.ntmps54
  go_wp2_with fail
  have hs2 := wrap_u64_bd (IntKind.u64.wrap (st * 6364136223846793005) + 1442695040888963407)
  generalize IntKind.u64.wrap (IntKind.u64.wrap (st * 6364136223846793005) + 1442695040888963407) = s1 at *
  obtain ⟨hb1, hg1⟩ := src_set (j := 2) (.int .u64 s1) HB.out
  have hb1' : (w.setCell ⟨g, 2, none⟩ (.int .u64 s1)).heap[g]? = some (.cells #[.slice a len cap, .int .i64 (k : Int), .int .u64 s1] 54) := hb1
  have HA1 := hide (HA.out.grown hg1 HB.out (by simp) (by simp) (by simp))
  clear hb1 c0 c1 c2 hf
  generalize w.setCell ⟨g, 2, none⟩ (.int .u64 s1) = W1 at *
  obtain ⟨c0, c1, c2, hf⟩ := src_cells hb1'
  have HB1 := hide hb1'
  clear hb1'
  go_quiet (fail)
  revert nq
  intro nq1
  go_wp2_with fail
  obtain ⟨b, off, rfl, hbs, hc⟩ := HA1.out.2 k (by rw [HL.out]; exact hk)
  go_quiet (fail)
  go_wp2_with fail
  go_ret
  obtain ⟨hb2, hg2⟩ := src_set (w := W1.drewN (nq1 + nq)) (j := 1) (.int .i64 ((k : Int) + 1)) HB1.out
  have hr := rem_bd (xor_u64_bd (s1 / 8589934592) (IntKind.u64.wrap (zs[k]?.getD 0))).1 hn hn1
  have hG := grown_trans (grown_drewN hg1 (nq1 + nq)) hg2
  refine ⟨_, rfl, hr.1, hr.2, hG, (k : Int) + 1, s1, hb2, by omega, by omega, hs2.1, hs2.2⟩
set_option maxHeartbeats 1000000 in
theorem l01Next_end (g : Nat) (n : Int) (zs : List Int) (w : World) (a : Option Addr) (cap k : Nat) (st : Int) (hb : w.heap[g]? = some (.cells #[.slice a zs.length cap, .int .i64 (k : Int), .int .u64 st] 54)) (harr : Arr w a zs)
    (hk : k = zs.length) (hs0 : 0 ≤ st) (hs1 : st ≤ 18446744073709551615) (hn : 0 < n) (hn1 : n ≤ 9223372036854775807) (hl : zs.length ≤ 2097152) :
    Calls Try.prog 54 #[.pointer (some ⟨g, 0, none⟩), .int .i64 n] w fun e w' => ∃ r : Int, e = .returned (.int .i64 r) ∧ 0 ≤ r ∧ r < n ∧ w.grownBy w' (some g) ∧ SrcA w' g 54 zs.length a cap := by
  obtain ⟨c0, c1, c2, hf⟩ := src_cells hb
  have HB := hide hb
  have HA := hide harr
  clear hb harr
  have hkl : ¬ (k : Int) < (zs.length : Int) := by omega
  generalize hlen : zs.length = len at *
  have HL := hide hlen
  clear hlen
  have HK := hide hk
  clear hk
  go_enter Try.func54, Try.ntmps54
  go_wp2_with fail
  have hs2 := wrap_u64_bd (IntKind.u64.wrap (st * 6364136223846793005) + 1442695040888963407)
  generalize IntKind.u64.wrap (IntKind.u64.wrap (st * 6364136223846793005) + 1442695040888963407) = s1 at *
  obtain ⟨hb1, hg1⟩ := src_set (j := 2) (.int .u64 s1) HB.out
  have hb1' : (w.setCell ⟨g, 2, none⟩ (.int .u64 s1)).heap[g]? = some (.cells #[.slice a len cap, .int .i64 (k : Int), .int .u64 s1] 54) := hb1
  have HA1 := hide (HA.out.grown hg1 HB.out (by simp) (by simp) (by simp))
  clear hb1 c0 c1 c2 hf
  generalize w.setCell ⟨g, 2, none⟩ (.int .u64 s1) = W1 at *
  obtain ⟨c0, c1, c2, hf⟩ := src_cells hb1'
  have HB1 := hide hb1'
  clear hb1'
  go_quiet (fail)
  go_wp2_with fail
  go_ret
  have hr := rem_bd' (x := s1 / 8589934592) hn hn1
  refine ⟨_, rfl, hr.1, hr.2, grown_drewN hg1 nq, (k : Int), s1, HB1.out, by omega, by have h1 := HK.out; omega, hs2.1, hs2.2⟩
theorem l01Next_walk (g : Nat) (n : Int) (zs : List Int) (w : World) (a : Option Addr) (cap : Nat) (harr : Arr w a zs) (h : SrcA w g 54 zs.length a cap) (hn : 0 < n) (hn1 : n ≤ 9223372036854775807) (hl : zs.length ≤ 2097152) :
    Calls Try.prog 54 #[.pointer (some ⟨g, 0, none⟩), .int .i64 n] w fun e w' => ∃ r : Int, e = .returned (.int .i64 r) ∧ 0 ≤ r ∧ r < n ∧ w.grownBy w' (some g) ∧ SrcA w' g 54 zs.length a cap := by
  obtain ⟨pos, st, hb, hp0, hp1, hs0, hs1⟩ := h
  obtain ⟨k, rfl⟩ := Int.eq_ofNat_of_zero_le hp0
  by_cases hk : k < zs.length
  · exact l01Next_more g n zs w a cap k st hb harr hk hs0 hs1 hn hn1 hl
  · exact l01Next_end g n zs w a cap k st hb harr (by omega) hs0 hs1 hn hn1 hl

set_option maxHeartbeats 1000000 in
theorem l01Begin_walk (a : Option Addr) (n cap : Nat) (zs : List Int) (w : World) (hn : zs.length = n) (ha : Arr w a zs) (hm : n ≤ 2097152) :
    Calls Try.prog 18 #[.slice a n cap] w fun e w' => ∃ st : Int, e = .returned (.agg #[.slice a n cap, .int .i64 0, .int .u64 st]) ∧ 0 ≤ st ∧ st ≤ 18446744073709551615 ∧ Below w.heap.size w w' := by
  have HN := hide hn
  have HA := hide ha
  clear hn ha
  go_enter Try.func18, Try.ntmps18
  go_wp2_with fail
  have hmade := hide (made_start w 54 a n cap 1469598103934665603 (by omega) (by omega))
  generalize (w.alloc (.cells #[.slice none 0 0, .int .i64 0, .int .u64 0] 54)).alloc (.cells #[.slice a n cap, .int .i64 0, .int .u64 1469598103934665603] 54) = W at *
  go_loopw [4] (fun t w2 => ∃ k : Nat, k ≤ n ∧ t = .int .i64 k ∧ Hid (Made w w2 54 a n cap)) (fun t _ => n - (intOf t).toNat)
  case atStart => exact ⟨0, Nat.zero_le _, rfl, hmade⟩
  case round =>
    obtain ⟨k, hk, rfl, HM⟩ := hrel
    obtain ⟨hb, hz, hr, st, hs0, hs1, hg⟩ := HM.out
    by_cases hlt : k < n
    · obtain ⟨b, off, rfl, hbs, hc0⟩ := HA.out.2 k (by rw [HN.out]; exact hlt)
      have hc : wr.cell? ⟨b, off + k, none⟩ = some (.int .u8 (zs.getD k 0)) := by rw [hb.cell (p := ⟨b, off + k, none⟩) hbs]; exact hc0
      clear hc0
      have hz := getD_bd HA.out.1 k
      generalize zs.getD k 0 = z at *
      obtain ⟨c0, c1, c2, hf⟩ := src_cells hg
      clear hr hg hmade c0 c1
      have hx := xor_u64_bd st z
      go_wp2
      go_region
      go_wp2
      have hw := wrap_u64_bd (bits .xor .u64 st z * 1099511628211)
      exact ⟨⟨k + 1, by omega, by go_num, hide (made_set HM.out _ hw.1 hw.2)⟩, by simp [intOf]; omega⟩
    · obtain ⟨c0, c1, c2, hf⟩ := src_cells hg
      obtain ⟨d0, d1, d2, hf2⟩ := src_cells hr
      clear hr hg hmade
      go_wp2
      exact bodyPost_ret (v := .agg #[.slice a n cap, .int .i64 0, .int .u64 st]) (by simp [results, Try.results18, go_sem, d0, d1, d2]) rfl ⟨st, rfl, hs0, hs1, ((hb.setCell (Nat.le_refl _) _).setCell (Nat.le_refl _) _).setCell (Nat.le_refl _) _⟩

/-- A source of drawn numbers, and the bytes that it hangs on. -/
def Sr0 (w : World) (g n : Nat) (a : Option Addr) (cap : Nat) : Prop := ∃ ys : List Int, ys.length = n ∧ Arr w a ys ∧ SrcA w g 54 n a cap ∧ n ≤ 2097152
theorem Sr0.lt {w : World} {g n cap : Nat} {a : Option Addr} (h : Sr0 w g n a cap) : g < w.heap.size := by
  obtain ⟨ys, _, _, hs, _⟩ := h
  exact hs.lt
/-- .. under way since w0: it alone, of what there was, has been written. -/
def DS (w0 W : World) (g n : Nat) (a : Option Addr) (cap : Nat) : Prop := Sr0 w0 g n a cap ∧ w0.grownBy W (some g) ∧ SrcA W g 54 n a cap
theorem DS.start {w : World} {g n cap : Nat} {a : Option Addr} (h : Sr0 w g n a cap) : DS w w g n a cap := by
  obtain ⟨ys, h1, h2, h3, h4⟩ := h
  exact ⟨⟨ys, h1, h2, h3, h4⟩, grown_reflp _ _, h3⟩
theorem DS.sr0 {w0 W : World} {g n cap : Nat} {a : Option Addr} (h : DS w0 W g n a cap) : Sr0 W g n a cap := by
  obtain ⟨⟨ys, h1, h2, h3, h4⟩, hg, hs⟩ := h
  exact ⟨ys, h1, h2.srcA h3 hg, hs, h4⟩
theorem DS.lt {w0 W : World} {g n cap : Nat} {a : Option Addr} (h : DS w0 W g n a cap) : g < w0.heap.size := h.1.lt
theorem DS.step {w0 W W' : World} {g n cap : Nat} {a : Option Addr} (h : DS w0 W g n a cap) (hg : W.grownBy W' (some g)) (hs : SrcA W' g 54 n a cap) : DS w0 W' g n a cap := ⟨h.1, grown_trans h.2.1 hg, hs⟩
theorem DS.next {w0 W W' : World} {g n cap : Nat} {a : Option Addr} (h : DS w0 W g n a cap) (hb : Below W.heap.size W W') : DS w0 W' g n a cap := ⟨h.1, grown_below h.2.1 hb, h.2.2.below hb (Nat.le_refl _)⟩
theorem DS.drew {w0 W : World} {g n cap : Nat} {a : Option Addr} (h : DS w0 W g n a cap) : DS w0 W.drew g n a cap := ⟨h.1, grown_drew h.2.1, h.2.2⟩
theorem DS.put {w0 W W' : World} {g n cap b : Nat} {a : Option Addr} (h : DS w0 W g n a cap) (hg : W.grownBy W' (some b)) (hb : w0.heap.size ≤ b) : DS w0 W' g n a cap := by
  have hl := h.lt
  refine ⟨h.1, ⟨hg.os.trans h.2.1.os, hg.tape.trans h.2.1.tape, hg.output.trans h.2.1.output, Nat.le_trans h.2.1.size hg.size, fun k hk hr => ?_⟩, h.2.2.same (hg.block g h.2.2.lt (fun e => by have := Option.some.inj e; omega))⟩
  rw [hg.block k (Nat.lt_of_lt_of_le hk h.2.1.size) (fun e => by have := Option.some.inj e; omega)]
  exact h.2.1.block k hk hr
theorem DS.draw {w0 W : World} {g len cap : Nat} {a : Option Addr} (h : DS w0 W g len a cap) (n : Int) (hn : 0 < n) (hn1 : n ≤ 9223372036854775807) :
    Calls Try.prog 54 #[.pointer (some ⟨g, 0, none⟩), .int .i64 n] W fun e W' => ∃ x : Int, e = .returned (.int .i64 x) ∧ 0 ≤ x ∧ x < n ∧ W.grownBy W' (some g) ∧ SrcA W' g 54 len a cap := by
  obtain ⟨ys, h1, h2, h3, h4⟩ := h.sr0
  subst h1
  exact l01Next_walk g n ys W a cap h2 h3 hn hn1 h4
/-- Rows and boxes that lie in other blocks than the one that was written. -/
theorem owns_grb {w w' : World} {B e K n g : Nat} {v : Value} {xs : List Value} (h : ownsAt w B e K v n xs) (hg : w.grownBy w' (some g)) (hB : g < B) : ownsAt w' B e K v n xs := by
  refine ⟨h.1, ?_⟩
  rcases h.2 with h0 | ⟨b, off, cap, cur, hv, hb, hc, rest⟩
  · exact .inl h0
  · exact .inr ⟨b, off, cap, cur, hv, hb, (hg.block b (Array.getElem?_eq_some_iff.1 hc).1 (fun e => by have := Option.some.inj e; omega)).trans hc, rest⟩
theorem owns_nx {w w' : World} {B e K n : Nat} {v : Value} {xs : List Value} (h : ownsAt w B e K v n xs) (hb : Below w.heap.size w w') : ownsAt w' B e K v n xs := by
  refine ⟨h.1, ?_⟩
  rcases h.2 with h0 | ⟨b, off, cap, cur, hv, hB, hc, rest⟩
  · exact .inl h0
  · exact .inr ⟨b, off, cap, cur, hv, hB, (hb.block b (Array.getElem?_eq_some_iff.1 hc).1).trans hc, rest⟩
/-- A board in its box p: valid or not; its row lies behind the box. -/
def BdB (W : World) (p : Nat) (u x : Int) (v : Value) (os : List PieceM) : Prop := HoldV W p #[.int .i64 u, .int .i64 x, v] 29 ∧ OwnP W (p + 1) v os
theorem BdB.next {W W' : World} {p : Nat} {u x : Int} {v : Value} {os : List PieceM} (h : BdB W p u x v os) (hb : Below W.heap.size W W') : BdB W' p u x v os := ⟨h.1.next hb, owns_nx h.2 hb⟩
theorem BdB.gr {W W' : World} {p g : Nat} {u x : Int} {v : Value} {os : List PieceM} (h : BdB W p u x v os) (hg : W.grownBy W' (some g)) (hne : g < p) : BdB W' p u x v os := ⟨hv_gr h.1 hg (by omega), owns_grb h.2 hg (by omega)⟩
theorem BdB.drew {W : World} {p : Nat} {u x : Int} {v : Value} {os : List PieceM} (h : BdB W p u x v os) : BdB W.drew p u x v os := h
theorem BdB.arr {W : World} {p : Nat} {u x : Int} {v : Value} {os : List PieceM} (h : BdB W p u x v os) : ∃ (a : Option Addr) (c : Nat), v = .slice a os.length c ∧ ArrP W a (os.flatMap valPiece) ∧ os.length ≤ c := by
  obtain ⟨a, c, h1, h2, h3, _⟩ := arrP_own h.2
  exact ⟨a, c, h1, h2, h3⟩
/-- Another board is put into the box. -/
theorem BdB.put {W : World} {p H : Nat} {u x u' x' : Int} {v v' : Value} {os os' : List PieceM} (h : BdB W p u x v os) (ho : OwnP W H v' os') (hp : p < H) : BdB (((W.setCell ⟨p, 0, none⟩ (.int .i64 u')).setCell ⟨p, 1, none⟩ (.int .i64 x')).setCell ⟨p, 2, none⟩ v') p u' x' v' os' := by
  refine ⟨?_, ?_⟩
  · have q := hv_set (hv_set (hv_set h.1 0 (.int .i64 u')) 1 (.int .i64 x')) 2 v'
    simp only [List.setIfInBounds_toArray, List.set_cons_zero, List.set_cons_succ] at q
    exact q
  · exact owns_grb (ownP_mono ho (by omega)) (gr_set (gr_set (gr_set (grown_reflp _ _) 0 _) 1 _) 2 _) (by omega)
theorem grown3 (W : World) (p : Nat) (a b c : Value) : W.grownBy (((W.setCell ⟨p, 0, none⟩ a).setCell ⟨p, 1, none⟩ b).setCell ⟨p, 2, none⟩ c) (some p) := gr_set (gr_set (gr_set (grown_reflp _ _) 0 _) 1 _) 2 _
theorem bOK_zero (a : Int) (h0 : 0 ≤ a) (h1 : a ≤ 1099511627776) : bOK a a [] := ⟨h0, h1, by simp, rfl⟩
end Go.Proofs.Ytlkbmdkidpfioaa
