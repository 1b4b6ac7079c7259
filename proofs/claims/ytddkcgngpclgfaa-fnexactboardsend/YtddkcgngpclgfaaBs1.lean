/-
Contracts of functions of this seat.
-/
import Derived.Test.YtddkcgngpclgfaaRows
import Derived.WalkKit
import Derived.ProofKit
import Derived.OpenShut
import Derived.Test.YtddkcgngpclgfaaBs0
import Derived.Test.YtddkcgngpclgfaaL1BoardSend
namespace Go.Proofs.Ytddkcgngpclgfaa
open Go.ChangeShapes Go.WideShapes Go.ChangeAt Go.RowKit
set_option linter.unusedVariables false
set_option maxRecDepth 100000
set_option maxHeartbeats 4000000 in
theorem implSend_no {u x : Int} {os : List PieceM} (k : Int) (t : Int) (hno : ¬ bOK u x os) : BoardSendP 15 (fun _ => True) u x os k t 0 0 [] 1 := by
  intro a n cap w hn ha hc hm _
  obtain ⟨hb2, hX, hR⟩ := two_boxes w #[.int .i64 u, .int .i64 x, .slice a n cap] #[.int .i64 0, .int .i64 0, .slice none 0 0] 29 29
  have HB2 := hide hb2; have HX := hide hX; have HR := hide hR
  have k0 := hX.cell 0 _ rfl; have k1 := hX.cell 1 _ rfl; have k2 := hX.cell 2 _ rfl
  have CV := hide (newPieceList_no u x a n cap os ((w.alloc (.cells #[.int .i64 u, .int .i64 x, .slice a n cap] 29)).alloc (.cells #[.int .i64 0, .int .i64 0, .slice none 0 0] 29)) hn (ha.below hb2 (Nat.le_refl _)) hm hno)
  clear hn ha hno hb2 hX hR
  go_enter Try.func15, Try.ntmps15
  go_wp2_with fail
  refine CV.out.mono ?_
  rintro e w1 ⟨rfl, hw1⟩
  have HR1 := hide (HR.out.next hw1)
  have HB1 : Hid (Below w.heap.size w w1) := hide (HB2.out.trans (hw1.mono HB2.out.size))
  have r0 := HR1.out.cell 0 _ rfl; have r1 := HR1.out.cell 1 _ rfl; have r2 := HR1.out.cell 2 _ rfl; have rf := HR1.out.frozen
  clear hw1 CV k0 k1 k2 HB2 HX HR
  go_wp2_with fail
  exact bodyPost_ret (v := .tuple #[.agg #[.int .i64 0, .int .i64 0, .slice none 0 0], .int .i64 1]) (by simp [results, Try.results15, go_sem, r0, r1, r2]) rfl ⟨_, rfl, ownP_nil _ _, below_gr HB1.out (gr_set (gr_set (gr_set (grown_reflp _ _) 0 _) 1 _) 2 _) HB1.out.size (Nat.le_succ _)⟩
set_option maxHeartbeats 4000000 in
theorem specSend_no {u x : Int} {os : List PieceM} (k : Int) (t : Int) (hno : ¬ bOK u x os) : BoardSendP 14 (fun _ => True) u x os k t 0 0 [] 1 := by
  intro a n cap w hn ha hc hm _
  obtain ⟨hb2, hX, hR⟩ := two_boxes w #[.int .i64 u, .int .i64 x, .slice a n cap] #[.int .i64 0, .int .i64 0, .slice none 0 0] 29 29
  have HB2 := hide hb2; have HX := hide hX; have HR := hide hR
  have k0 := hX.cell 0 _ rfl; have k1 := hX.cell 1 _ rfl; have k2 := hX.cell 2 _ rfl
  have CV := hide (l15OK_walk u x a n cap os ((w.alloc (.cells #[.int .i64 u, .int .i64 x, .slice a n cap] 29)).alloc (.cells #[.int .i64 0, .int .i64 0, .slice none 0 0] 29)) hn (ha.below hb2 (Nat.le_refl _)) hm)
  rw [bokB_no hno] at CV
  clear hn ha hno hb2 hX hR
  go_enter Try.func14, Try.ntmps14
  go_wp2_with fail
  refine CV.out.mono ?_
  rintro e w1 ⟨rfl, hw1⟩
  have HR1 := hide (HR.out.next hw1)
  have HB1 : Hid (Below w.heap.size w w1) := hide (HB2.out.trans (hw1.mono HB2.out.size))
  have r0 := HR1.out.cell 0 _ rfl; have r1 := HR1.out.cell 1 _ rfl; have r2 := HR1.out.cell 2 _ rfl; have rf := HR1.out.frozen
  clear hw1 CV k0 k1 k2 HB2 HX HR
  go_wp2_with fail
  exact bodyPost_ret (v := .tuple #[.agg #[.int .i64 0, .int .i64 0, .slice none 0 0], .int .i64 1]) (by simp [results, Try.results14, go_sem, r0, r1, r2]) rfl ⟨_, rfl, ownP_nil _ _, below_gr HB1.out (gr_set (gr_set (gr_set (grown_reflp _ _) 0 _) 1 _) 2 _) HB1.out.size (Nat.le_succ _)⟩

set_option maxHeartbeats 8000000 in
theorem implSend_form {u x : Int} {os : List PieceM} (k : Int) (t : Int) (hok : bOK u x os) (hf : ¬ sdOK k t) : BoardSendP 15 (fun _ => True) u x os k t 0 0 [] 1 := by
  intro a n cap w hn ha hc hm _
  obtain ⟨hb2, hX, hR⟩ := two_boxes w #[.int .i64 u, .int .i64 x, .slice a n cap] #[.int .i64 0, .int .i64 0, .slice none 0 0] 29 29
  have HB2 := hide hb2; have HX := hide hX; have HR := hide hR
  have k0 := hX.cell 0 _ rfl; have k1 := hX.cell 1 _ rfl; have k2 := hX.cell 2 _ rfl
  have CV := hide (newPieceList_yes u x a n cap os ((w.alloc (.cells #[.int .i64 u, .int .i64 x, .slice a n cap] 29)).alloc (.cells #[.int .i64 0, .int .i64 0, .slice none 0 0] 29)) hn (ha.below hb2 (Nat.le_refl _)) hm hok)
  have HOK := hide hok
  have HN := hide hn
  have hV : w.heap.size + 1 < ((w.alloc (.cells #[.int .i64 u, .int .i64 x, .slice a n cap] 29)).alloc (.cells #[.int .i64 0, .int .i64 0, .slice none 0 0] 29)).heap.size := hR.lt
  clear hn ha hok hb2 hX hR
  have HPS := hide (fun W => isPieceSize_walk k W)
  have HTI := hide (fun W => isTime_walk t W)
  have hcase : inB k 1 65535 = false ∨ (inB k 1 65535 = true ∧ inB t 0 1000000000 = false) := by
    by_cases h1 : 1 ≤ k ∧ k ≤ 65535
    · exact .inr ⟨inB_iff.2 h1, decide_eq_false (fun h2 => hf ⟨h1, h2⟩)⟩
    · exact .inl (decide_eq_false h1)
  clear hf
  rcases hcase with h1 | ⟨h1, h2⟩
  · rw [h1] at HPS
    clear h1
    go_enter Try.func15, Try.ntmps15
    go_wp2_with fail
    generalize (w.alloc (.cells #[.int .i64 u, .int .i64 x, .slice a n cap] 29)).alloc (.cells #[.int .i64 0, .int .i64 0, .slice none 0 0] 29) = V at *
    refine CV.out.mono ?_
    rintro e w1 ⟨L, ns, rfl, hD, hM, hw1⟩
    have HR1 := hide (HR.out.next hw1)
    have HB1 : Hid (Below w.heap.size w w1) := hide (HB2.out.trans (hw1.mono HB2.out.size))
    have r0 := HR1.out.cell 0 _ rfl; have r1 := HR1.out.cell 1 _ rfl; have r2 := HR1.out.cell 2 _ rfl; have rf := HR1.out.frozen
    clear hw1 CV k0 k1 k2 HB2 HX HR hD hM
    go_wp2_with (first | (go_at_call 34; with_reducible refine (HPS.out _).mono ?_; rintro e w2 ⟨rfl, rfl⟩) | (go_at_call 35; with_reducible refine (HTI.out _).mono ?_; rintro e w2 ⟨rfl, rfl⟩))
    exact bodyPost_ret (v := .tuple #[.agg #[.int .i64 0, .int .i64 0, .slice none 0 0], .int .i64 1]) (by simp [results, Try.results15, go_sem, r0, r1, r2]) rfl ⟨_, rfl, ownP_nil _ _, below_gr HB1.out (gr_set (gr_set (gr_set (grown_reflp _ _) 0 _) 1 _) 2 _) HB1.out.size (Nat.le_succ _)⟩
  · rw [h1] at HPS
    rw [h2] at HTI
    clear h1 h2
    go_enter Try.func15, Try.ntmps15
    go_wp2_with fail
    generalize (w.alloc (.cells #[.int .i64 u, .int .i64 x, .slice a n cap] 29)).alloc (.cells #[.int .i64 0, .int .i64 0, .slice none 0 0] 29) = V at *
    refine CV.out.mono ?_
    rintro e w1 ⟨L, ns, rfl, hD, hM, hw1⟩
    have HR1 := hide (HR.out.next hw1)
    have HB1 : Hid (Below w.heap.size w w1) := hide (HB2.out.trans (hw1.mono HB2.out.size))
    have r0 := HR1.out.cell 0 _ rfl; have r1 := HR1.out.cell 1 _ rfl; have r2 := HR1.out.cell 2 _ rfl; have rf := HR1.out.frozen
    clear hw1 CV k0 k1 k2 HB2 HX HR hD hM
    go_wp2_with (first | (go_at_call 34; with_reducible refine (HPS.out _).mono ?_; rintro e w2 ⟨rfl, rfl⟩) | (go_at_call 35; with_reducible refine (HTI.out _).mono ?_; rintro e w2 ⟨rfl, rfl⟩))
    exact bodyPost_ret (v := .tuple #[.agg #[.int .i64 0, .int .i64 0, .slice none 0 0], .int .i64 1]) (by simp [results, Try.results15, go_sem, r0, r1, r2]) rfl ⟨_, rfl, ownP_nil _ _, below_gr HB1.out (gr_set (gr_set (gr_set (grown_reflp _ _) 0 _) 1 _) 2 _) HB1.out.size (Nat.le_succ _)⟩

set_option maxHeartbeats 8000000 in
theorem implSend_full {u x : Int} {os : List PieceM} (k : Int) (t : Int) (hok : bOK u x os) (hs : sdOK k t) (hf : sdFull x k os) : BoardSendP 15 (fun _ => True) u x os k t 0 0 [] 18 := by
  intro a n cap w hn ha hc hm _
  obtain ⟨hb2, hX, hR⟩ := two_boxes w #[.int .i64 u, .int .i64 x, .slice a n cap] #[.int .i64 0, .int .i64 0, .slice none 0 0] 29 29
  have HB2 := hide hb2; have HX := hide hX; have HR := hide hR
  have k0 := hX.cell 0 _ rfl; have k1 := hX.cell 1 _ rfl; have k2 := hX.cell 2 _ rfl
  have CV := hide (newPieceList_yes u x a n cap os ((w.alloc (.cells #[.int .i64 u, .int .i64 x, .slice a n cap] 29)).alloc (.cells #[.int .i64 0, .int .i64 0, .slice none 0 0] 29)) hn (ha.below hb2 (Nat.le_refl _)) hm hok)
  have HOK := hide hok
  have HN := hide hn
  have hV : w.heap.size + 1 < ((w.alloc (.cells #[.int .i64 u, .int .i64 x, .slice a n cap] 29)).alloc (.cells #[.int .i64 0, .int .i64 0, .slice none 0 0] 29)).heap.size := hR.lt
  clear hn ha hok hb2 hX hR
  have HPS := hide (fun W => isPieceSize_walk k W)
  have HTI := hide (fun W => isTime_walk t W)
  rw [inB_iff.2 hs.1] at HPS
  rw [inB_iff.2 hs.2] at HTI
  have HK := hide hs.1
  have HF := hide hf
  clear hs hf
  go_enter Try.func15, Try.ntmps15
  go_wp2_with fail
  generalize (w.alloc (.cells #[.int .i64 u, .int .i64 x, .slice a n cap] 29)).alloc (.cells #[.int .i64 0, .int .i64 0, .slice none 0 0] 29) = V at *
  refine CV.out.mono ?_
  rintro e w1 ⟨L, ns, rfl, hD, hM, hw1⟩
  have CS := hide (send_full _ L u x k t ns w1 hD hw1.size (by rw [hM]; exact HOK.out) HK.out (by rw [hM]; exact HF.out))
  have HR1 := hide (HR.out.next hw1)
  have HB1 : Hid (Below w.heap.size w w1) := hide (HB2.out.trans (hw1.mono HB2.out.size))
  have r0 := HR1.out.cell 0 _ rfl; have r1 := HR1.out.cell 1 _ rfl; have r2 := HR1.out.cell 2 _ rfl; have rf := HR1.out.frozen
  clear hw1 CV k0 k1 k2 HB2 HX HR hD hM
  go_wp2_with (first | (go_at_call 34; with_reducible refine (HPS.out _).mono ?_; rintro e w2 ⟨rfl, rfl⟩) | (go_at_call 35; with_reducible refine (HTI.out _).mono ?_; rintro e w2 ⟨rfl, rfl⟩) | (go_at_call 36; with_reducible refine CS.out.mono ?_; rintro e w2 ⟨rfl, rfl⟩))
  exact bodyPost_ret (v := .tuple #[.agg #[.int .i64 0, .int .i64 0, .slice none 0 0], .int .i64 18]) (by simp [results, Try.results15, go_sem, r0, r1, r2]) rfl ⟨_, rfl, ownP_nil _ _, below_gr HB1.out (gr_set (gr_set (gr_set (grown_reflp _ _) 0 _) 1 _) 2 _) HB1.out.size (Nat.le_succ _)⟩

set_option maxHeartbeats 8000000 in
theorem implSend_yes {u x : Int} {os : List PieceM} (k : Int) (t : Int) (hok : bOK u x os) (hs : sdOK k t) (hf : ¬ sdFull x k os) : BoardSendP 15 (fun _ => True) u x os k t u (x + k) (os ++ [newP x k t]) 0 := by
  intro a n cap w hn ha hc hm _
  obtain ⟨hb2, hX, hR⟩ := two_boxes w #[.int .i64 u, .int .i64 x, .slice a n cap] #[.int .i64 0, .int .i64 0, .slice none 0 0] 29 29
  have HB2 := hide hb2; have HX := hide hX; have HR := hide hR
  have k0 := hX.cell 0 _ rfl; have k1 := hX.cell 1 _ rfl; have k2 := hX.cell 2 _ rfl
  have CV := hide (newPieceList_yes u x a n cap os ((w.alloc (.cells #[.int .i64 u, .int .i64 x, .slice a n cap] 29)).alloc (.cells #[.int .i64 0, .int .i64 0, .slice none 0 0] 29)) hn (ha.below hb2 (Nat.le_refl _)) hm hok)
  have HOK := hide hok
  have HN := hide hn
  have hV : w.heap.size + 1 < ((w.alloc (.cells #[.int .i64 u, .int .i64 x, .slice a n cap] 29)).alloc (.cells #[.int .i64 0, .int .i64 0, .slice none 0 0] 29)).heap.size := hR.lt
  have HLL : Hid ((os ++ [newP x k t]).length ≤ 1048576) := hide (by have := hok.2.2.1; rw [List.length_append, List.length_singleton]; omega)
  clear hn ha hok hb2 hX hR
  have HPS := hide (fun W => isPieceSize_walk k W)
  have HTI := hide (fun W => isTime_walk t W)
  rw [inB_iff.2 hs.1] at HPS
  rw [inB_iff.2 hs.2] at HTI
  have HK := hide hs.1
  have HF := hide hf
  clear hs hf
  go_enter Try.func15, Try.ntmps15
  go_wp2_with fail
  generalize (w.alloc (.cells #[.int .i64 u, .int .i64 x, .slice a n cap] 29)).alloc (.cells #[.int .i64 0, .int .i64 0, .slice none 0 0] 29) = V at *
  refine CV.out.mono ?_
  rintro e w1 ⟨L, ns, rfl, hD, hM, hw1⟩
  have CS := hide (send_yes _ L u x k t ns w1 hD hw1.size (by rw [hM]; exact HOK.out) HK.out (by rw [hM]; exact HF.out))
  rw [hM] at CS
  have HR1 := hide (HR.out.next hw1)
  have HB1 : Hid (Below w.heap.size w w1) := hide (HB2.out.trans (hw1.mono HB2.out.size))
  have hV1 := hw1.size
  clear hw1 CV k0 k1 k2 HB2 HX HR hD hM
  go_wp2_with (first | (go_at_call 34; with_reducible refine (HPS.out _).mono ?_; rintro e w2 ⟨rfl, rfl⟩) | (go_at_call 35; with_reducible refine (HTI.out _).mono ?_; rintro e w2 ⟨rfl, rfl⟩))
  refine CS.out.mono ?_
  rintro e w2 ⟨ns2, rfl, hD2, hM2, hw2⟩
  have hlen : ns2.length ≤ 1048576 := by have := congrArg List.length hM2; rw [List.length_map] at this; rw [this]; exact HLL.out
  have CB := hide (board_walk _ L u (x + k) ns2 w2 hD2 hlen)
  rw [hM2] at CB
  have HR2 := hide (HR1.out.below hw2 hV)
  have HB3 : Hid (Below w.heap.size w w2) := hide (HB1.out.trans (hw2.mono (by omega)))
  have hV2 := hw2.size
  clear hD2 hM2 hw2 hlen CS HR1 HB1
  go_wp2_with fail
  refine CB.out.mono ?_
  rintro e w3 ⟨v, rfl, hO, hw3⟩
  obtain ⟨bz, nz, rfl, _⟩ := arrP_own hO
  have HR3 := hide (HR2.out.next hw3)
  have HO := hide (ownP_mono hO (C := w.heap.size + 2) (by omega))
  have HB4 : Hid (Below w.heap.size w w3) := hide (HB3.out.trans (hw3.mono HB3.out.size))
  have r0 := HR3.out.cell 0 _ rfl; have r1 := HR3.out.cell 1 _ rfl; have r2 := HR3.out.cell 2 _ rfl; have rf := HR3.out.frozen
  clear hO hw3 CB HB3 HR2
  obtain ⟨ln, hln⟩ : ∃ ln, ln = (os ++ [newP x k t]).length := ⟨_, rfl⟩
  rw [← hln]
  go_wp2_with fail
  subst hln
  exact bodyPost_ret (v := .tuple #[.agg #[.int .i64 u, .int .i64 (x + k), .slice bz (os ++ [newP x k t]).length nz], .int .i64 0]) (by simp [results, Try.results15, go_sem, r0, r1, r2]) rfl ⟨_, rfl, ownP_mono (ownP_gr HO.out (gr_set (gr_set (gr_set (grown_reflp _ _) 0 _) 1 _) 2 _) (Nat.lt_succ_self _)) (by omega), below_gr HB4.out (gr_set (gr_set (gr_set (grown_reflp _ _) 0 _) 1 _) 2 _) HB4.out.size (Nat.le_succ _)⟩
end Go.Proofs.Ytddkcgngpclgfaa
