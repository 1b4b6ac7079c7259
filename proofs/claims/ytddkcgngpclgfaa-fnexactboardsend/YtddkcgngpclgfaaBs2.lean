/-
Contracts of functions of this seat.
-/
import Derived.Test.YtddkcgngpclgfaaRows
import Derived.WalkKit
import Derived.ProofKit
import Derived.OpenShut
import Derived.Test.YtddkcgngpclgfaaBs0
import Derived.Test.YtddkcgngpclgfaaL1BoardSend
namespace Go.Proofs.Ytddkcgngpclgfaa
open Go.ChangeShapes Go.WideShapes Go.ChangeAt Go.RowKit
set_option linter.unusedVariables false
set_option maxRecDepth 100000
theorem row_mono {W : World} {BB C n : Nat} {v : Value} {os : List PieceM} (h : RowP W BB v n os) (hC : C ≤ BB) : RowP W C v n os := by
  refine ⟨h.1, ?_⟩
  rcases h.2 with h0 | ⟨g, cap, cur, hv, hB, hrest⟩
  · exact .inl h0
  · exact .inr ⟨g, cap, cur, hv, by omega, hrest⟩
theorem pc_cells {W : World} {b : Nat} {q : PieceM} (hb : HoldV W b #[.int .i64 q.f0, .int .i64 q.f1, .int .i64 q.f2, .int .i64 q.f3, .bool q.f4, .bool q.f5] 45) : ∀ j u, (valPiece q)[j]? = some u → W.cell? ((⟨b, 0, none⟩ : Addr).add j) = some u := by
  intro j u hj
  have hj6 : j < 6 := (List.getElem?_eq_some_iff.1 hj).1
  rcases (show j = 0 ∨ j = 1 ∨ j = 2 ∨ j = 3 ∨ j = 4 ∨ j = 5 by omega) with rfl | rfl | rfl | rfl | rfl | rfl <;> (injection hj with hj; subst hj)
  · exact hb.cell 0 _ rfl
  · exact hb.cell 1 _ rfl
  · exact hb.cell 2 _ rfl
  · exact hb.cell 3 _ rfl
  · exact hb.cell 4 _ rfl
  · exact hb.cell 5 _ rfl
theorem val_one1 (q : PieceM) : ∀ u ∈ valPiece q, u.oneCell' = true := by intro u hu; simp [valPiece] at hu; rcases hu with rfl | rfl | rfl | rfl | rfl | rfl <;> rfl
set_option maxHeartbeats 8000000 in
theorem specSend_form {u x : Int} {os : List PieceM} (k t : Int) (hok : bOK u x os) (hf : ¬ sdOK k t) : BoardSendP 14 (fun _ => True) u x os k t 0 0 [] 1 := by
  intro a n cap w hn ha hc hm _
  obtain ⟨hb2, hX, hR⟩ := two_boxes w #[.int .i64 u, .int .i64 x, .slice a n cap] #[.int .i64 0, .int .i64 0, .slice none 0 0] 29 29
  have HB2 := hide hb2; have HX := hide hX; have HR := hide hR
  have k0 := hX.cell 0 _ rfl; have k1 := hX.cell 1 _ rfl; have k2 := hX.cell 2 _ rfl
  have CV := hide (l15OK_walk u x a n cap os ((w.alloc (.cells #[.int .i64 u, .int .i64 x, .slice a n cap] 29)).alloc (.cells #[.int .i64 0, .int .i64 0, .slice none 0 0] 29)) hn (ha.below hb2 (Nat.le_refl _)) hm)
  rw [bokB_yes hok] at CV
  have HOK := hide hok
  have HN := hide hn
  have HA := hide (ha.below hb2 (Nat.le_refl _))
  have hV : w.heap.size + 1 < ((w.alloc (.cells #[.int .i64 u, .int .i64 x, .slice a n cap] 29)).alloc (.cells #[.int .i64 0, .int .i64 0, .slice none 0 0] 29)).heap.size := hR.lt
  have hcase : inB k 1 65535 = false ∨ (inB k 1 65535 = true ∧ inB t 0 1000000000 = false) := by
    by_cases h1 : 1 ≤ k ∧ k ≤ 65535
    · exact .inr ⟨inB_iff.2 h1, decide_eq_false (fun h2 => hf ⟨h1, h2⟩)⟩
    · exact .inl (decide_eq_false h1)
  clear hn ha hok hb2 hX hR hf
  rcases hcase with h1 | ⟨h1, h2⟩
  · go_enter Try.func14, Try.ntmps14
    go_wp2_with fail
    generalize (w.alloc (.cells #[.int .i64 u, .int .i64 x, .slice a n cap] 29)).alloc (.cells #[.int .i64 0, .int .i64 0, .slice none 0 0] 29) = V at *
    refine CV.out.mono ?_
    rintro e w1 ⟨rfl, hw1⟩
    have HR1 := hide (HR.out.next hw1)
    have HX1 := hide (HX.out.next hw1)
    have HB1 : Hid (Below w.heap.size w w1) := hide (HB2.out.trans (hw1.mono HB2.out.size))
    have r0 := HR1.out.cell 0 _ rfl; have r1 := HR1.out.cell 1 _ rfl; have r2 := HR1.out.cell 2 _ rfl; have rf := HR1.out.frozen
    have k0' := HX1.out.cell 0 _ rfl; have k1' := HX1.out.cell 1 _ rfl; have k2' := HX1.out.cell 2 _ rfl
    clear hw1 CV k0 k1 k2 HB2 HX HR
    go_wp2_with (go_at_call 32; refine (In_walk _ _ _ _).mono ?_; rintro e w9 ⟨rfl, hq⟩; rw [hq]; clear hq)
    exact bodyPost_ret (v := .tuple #[.agg #[.int .i64 0, .int .i64 0, .slice none 0 0], .int .i64 1]) (by simp [results, Try.results14, go_sem, r0, r1, r2]) rfl ⟨_, rfl, ownP_nil _ _, below_gr HB1.out (gr_set (gr_set (gr_set (grown_reflp _ _) 0 _) 1 _) 2 _) HB1.out.size (Nat.le_succ _)⟩
  · go_enter Try.func14, Try.ntmps14
    go_wp2_with fail
    generalize (w.alloc (.cells #[.int .i64 u, .int .i64 x, .slice a n cap] 29)).alloc (.cells #[.int .i64 0, .int .i64 0, .slice none 0 0] 29) = V at *
    refine CV.out.mono ?_
    rintro e w1 ⟨rfl, hw1⟩
    have HR1 := hide (HR.out.next hw1)
    have HX1 := hide (HX.out.next hw1)
    have HB1 : Hid (Below w.heap.size w w1) := hide (HB2.out.trans (hw1.mono HB2.out.size))
    have r0 := HR1.out.cell 0 _ rfl; have r1 := HR1.out.cell 1 _ rfl; have r2 := HR1.out.cell 2 _ rfl; have rf := HR1.out.frozen
    have k0' := HX1.out.cell 0 _ rfl; have k1' := HX1.out.cell 1 _ rfl; have k2' := HX1.out.cell 2 _ rfl
    clear hw1 CV k0 k1 k2 HB2 HX HR
    go_wp2_with (go_at_call 32; refine (In_walk _ _ _ _).mono ?_; rintro e w9 ⟨rfl, hq⟩; rw [hq]; clear hq)
    exact bodyPost_ret (v := .tuple #[.agg #[.int .i64 0, .int .i64 0, .slice none 0 0], .int .i64 1]) (by simp [results, Try.results14, go_sem, r0, r1, r2]) rfl ⟨_, rfl, ownP_nil _ _, below_gr HB1.out (gr_set (gr_set (gr_set (grown_reflp _ _) 0 _) 1 _) 2 _) HB1.out.size (Nat.le_succ _)⟩

set_option maxHeartbeats 8000000 in
theorem specSend_full {u x : Int} {os : List PieceM} (k t : Int) (hok : bOK u x os) (hs : sdOK k t) (hf : sdFull x k os) : BoardSendP 14 (fun _ => True) u x os k t 0 0 [] 18 := by
  intro a n cap w hn ha hc hm _
  obtain ⟨hb2, hX, hR⟩ := two_boxes w #[.int .i64 u, .int .i64 x, .slice a n cap] #[.int .i64 0, .int .i64 0, .slice none 0 0] 29 29
  have HB2 := hide hb2; have HX := hide hX; have HR := hide hR
  have k0 := hX.cell 0 _ rfl; have k1 := hX.cell 1 _ rfl; have k2 := hX.cell 2 _ rfl
  have CV := hide (l15OK_walk u x a n cap os ((w.alloc (.cells #[.int .i64 u, .int .i64 x, .slice a n cap] 29)).alloc (.cells #[.int .i64 0, .int .i64 0, .slice none 0 0] 29)) hn (ha.below hb2 (Nat.le_refl _)) hm)
  rw [bokB_yes hok] at CV
  have HOK := hide hok
  have HN := hide hn
  have HA := hide (ha.below hb2 (Nat.le_refl _))
  have hV : w.heap.size + 1 < ((w.alloc (.cells #[.int .i64 u, .int .i64 x, .slice a n cap] 29)).alloc (.cells #[.int .i64 0, .int .i64 0, .slice none 0 0] 29)).heap.size := hR.lt
  have h1 : inB k 1 65535 = true := inB_iff.2 hs.1
  have h2 : inB t 0 1000000000 = true := inB_iff.2 hs.2
  have hx0 : 0 ≤ x := by have := chk_le _ _ _ hok.2.2.2; have := hok.1; omega
  have hx1 := hok.2.1
  obtain ⟨⟨q1, q2⟩, q3, q4⟩ := hs
  have hcase : 4096 ≤ (n : Int) ∨ (¬ 4096 ≤ (n : Int) ∧ 1099511627776 < x + k) := by
    rcases hf with h | h
    · exact .inl (by omega)
    · by_cases h4 : 4096 ≤ (n : Int)
      · exact .inl h4
      · exact .inr ⟨h4, h⟩
  clear hn ha hok hb2 hX hR hf
  rcases hcase with h3 | ⟨h3, h4⟩
  · go_enter Try.func14, Try.ntmps14
    go_wp2_with fail
    generalize (w.alloc (.cells #[.int .i64 u, .int .i64 x, .slice a n cap] 29)).alloc (.cells #[.int .i64 0, .int .i64 0, .slice none 0 0] 29) = V at *
    refine CV.out.mono ?_
    rintro e w1 ⟨rfl, hw1⟩
    have HR1 := hide (HR.out.next hw1)
    have HX1 := hide (HX.out.next hw1)
    have HB1 : Hid (Below w.heap.size w w1) := hide (HB2.out.trans (hw1.mono HB2.out.size))
    have r0 := HR1.out.cell 0 _ rfl; have r1 := HR1.out.cell 1 _ rfl; have r2 := HR1.out.cell 2 _ rfl; have rf := HR1.out.frozen
    have k0' := HX1.out.cell 0 _ rfl; have k1' := HX1.out.cell 1 _ rfl; have k2' := HX1.out.cell 2 _ rfl
    clear hw1 CV k0 k1 k2 HB2 HX HR
    go_wp2_with (go_at_call 32; refine (In_walk _ _ _ _).mono ?_; rintro e w9 ⟨rfl, hq⟩; rw [hq]; clear hq)
    exact bodyPost_ret (v := .tuple #[.agg #[.int .i64 0, .int .i64 0, .slice none 0 0], .int .i64 18]) (by simp [results, Try.results14, go_sem, r0, r1, r2]) rfl ⟨_, rfl, ownP_nil _ _, below_gr HB1.out (gr_set (gr_set (gr_set (grown_reflp _ _) 0 _) 1 _) 2 _) HB1.out.size (Nat.le_succ _)⟩
  · go_enter Try.func14, Try.ntmps14
    go_wp2_with fail
    generalize (w.alloc (.cells #[.int .i64 u, .int .i64 x, .slice a n cap] 29)).alloc (.cells #[.int .i64 0, .int .i64 0, .slice none 0 0] 29) = V at *
    refine CV.out.mono ?_
    rintro e w1 ⟨rfl, hw1⟩
    have HR1 := hide (HR.out.next hw1)
    have HX1 := hide (HX.out.next hw1)
    have HB1 : Hid (Below w.heap.size w w1) := hide (HB2.out.trans (hw1.mono HB2.out.size))
    have r0 := HR1.out.cell 0 _ rfl; have r1 := HR1.out.cell 1 _ rfl; have r2 := HR1.out.cell 2 _ rfl; have rf := HR1.out.frozen
    have k0' := HX1.out.cell 0 _ rfl; have k1' := HX1.out.cell 1 _ rfl; have k2' := HX1.out.cell 2 _ rfl
    clear hw1 CV k0 k1 k2 HB2 HX HR
    go_wp2_with (go_at_call 32; refine (In_walk _ _ _ _).mono ?_; rintro e w9 ⟨rfl, hq⟩; rw [hq]; clear hq)
    exact bodyPost_ret (v := .tuple #[.agg #[.int .i64 0, .int .i64 0, .slice none 0 0], .int .i64 18]) (by simp [results, Try.results14, go_sem, r0, r1, r2]) rfl ⟨_, rfl, ownP_nil _ _, below_gr HB1.out (gr_set (gr_set (gr_set (grown_reflp _ _) 0 _) 1 _) 2 _) HB1.out.size (Nat.le_succ _)⟩

set_option maxHeartbeats 8000000 in
theorem specSend_yes {u x : Int} {os : List PieceM} (k t : Int) (hok : bOK u x os) (hs : sdOK k t) (hf : ¬ sdFull x k os) : BoardSendP 14 (fun _ => True) u x os k t u (x + k) (os ++ [newP x k t]) 0 := by
  intro a n cap w hn ha hc hm _
  obtain ⟨hb2, hX, hR⟩ := two_boxes w #[.int .i64 u, .int .i64 x, .slice a n cap] #[.int .i64 0, .int .i64 0, .slice none 0 0] 29 29
  have HB2 := hide hb2; have HX := hide hX; have HR := hide hR
  have k0 := hX.cell 0 _ rfl; have k1 := hX.cell 1 _ rfl; have k2 := hX.cell 2 _ rfl
  have CV := hide (l15OK_walk u x a n cap os ((w.alloc (.cells #[.int .i64 u, .int .i64 x, .slice a n cap] 29)).alloc (.cells #[.int .i64 0, .int .i64 0, .slice none 0 0] 29)) hn (ha.below hb2 (Nat.le_refl _)) hm)
  rw [bokB_yes hok] at CV
  have HOK := hide hok
  have HN := hide hn
  have HA := hide (ha.below hb2 (Nat.le_refl _))
  have hV : w.heap.size + 1 < ((w.alloc (.cells #[.int .i64 u, .int .i64 x, .slice a n cap] 29)).alloc (.cells #[.int .i64 0, .int .i64 0, .slice none 0 0] 29)).heap.size := hR.lt
  have h1 : inB k 1 65535 = true := inB_iff.2 hs.1
  have h2 : inB t 0 1000000000 = true := inB_iff.2 hs.2
  have hx0 : 0 ≤ x := by have := chk_le _ _ _ hok.2.2.2; have := hok.1; omega
  have hx1 := hok.2.1
  obtain ⟨⟨q1, q2⟩, q3, q4⟩ := hs
  have h3 : ¬ 4096 ≤ (n : Int) := fun h => hf (.inl (by have := hok.2.2.1; omega))
  have h4 : ¬ 1099511627776 < x + k := fun h => hf (.inr h)
  obtain ⟨i, hi, hz0, hz1, hz2⟩ := info_parts Try.infoPiece
  have HI := hide hi; have HI0 := hide hz0; have HI1 := hide hz1; have HI2 := hide hz2
  clear hn ha hok hb2 hX hR hf hi hz0 hz1 hz2
  go_enter Try.func14, Try.ntmps14
  go_wp2_with fail
  generalize (w.alloc (.cells #[.int .i64 u, .int .i64 x, .slice a n cap] 29)).alloc (.cells #[.int .i64 0, .int .i64 0, .slice none 0 0] 29) = V at *
  refine CV.out.mono ?_
  rintro e w1 ⟨rfl, hw1⟩
  have CC := hide (l15Copy_walk u x a n cap os w1 HN.out (HA.out.below hw1 (Nat.le_refl _)) hm)
  have HR1 := hide (HR.out.next hw1)
  have HX1 := hide (HX.out.next hw1)
  have HB1 : Hid (Below w.heap.size w w1) := hide (HB2.out.trans (hw1.mono HB2.out.size))
  have hV1 := hw1.size
  clear hw1 CV k0 k1 k2 HB2 HX HR
  have k0 := HX1.out.cell 0 _ rfl; have k1 := HX1.out.cell 1 _ rfl; have k2 := HX1.out.cell 2 _ rfl
  go_wp2_with (go_at_call 32; refine (In_walk _ _ _ _).mono ?_; rintro e w9 ⟨rfl, hq⟩; rw [hq]; clear hq)
  refine CC.out.mono ?_
  rintro e w2 ⟨v, rfl, hO, hw2⟩
  obtain ⟨bz, nz, rfl⟩ := hO.form
  have HR2 := hide (HR1.out.next hw2)
  have HX2 := hide (HX1.out.next hw2)
  have HB3 : Hid (Below w.heap.size w w2) := hide (HB1.out.trans (hw2.mono HB1.out.size))
  have HO := hide hO
  have hBB : w.heap.size + 2 ≤ w1.heap.size + 2 := by omega
  have hsz2 : w1.heap.size ≤ w2.heap.size := hw2.size
  clear hO hw2 CC HB1 HR1 HX1 k0 k1 k2
  have k0 := HX2.out.cell 0 _ rfl; have k1 := HX2.out.cell 1 _ rfl; have k2 := HX2.out.cell 2 _ rfl; have kf := HX2.out.frozen
  go_upto_region 6 with fail
  have HX3 := hide (hv_set (hv_set (hv_set HX2.out 0 (.int .i64 u)) 1 (.int .i64 x)) 2 (.slice bz n nz))
  have HR3 := hide (hv_other (hv_other (hv_other HR2.out (C := w.heap.size) (by omega) 0 (.int .i64 u)) (C := w.heap.size) (by omega) 1 (.int .i64 x)) (C := w.heap.size) (by omega) 2 (.slice bz n nz))
  have hg3 : w2.grownBy (((w2.setCell ⟨w.heap.size, 0, none⟩ (.int .i64 u)).setCell ⟨w.heap.size, 1, none⟩ (.int .i64 x)).setCell ⟨w.heap.size, 2, none⟩ (.slice bz n nz)) (some w.heap.size) := gr_set (gr_set (gr_set (grown_reflp _ _) 0 _) 1 _) 2 _
  have HO3 := hide (row_gr HO.out hg3 (by omega))
  have HB4 := hide (below_gr HB3.out hg3 HB3.out.size (Nat.le_refl _))
  clear k0 k1 k2 kf HX2 HR2 HO HB3 hg3
  generalize ((w2.setCell ⟨w.heap.size, 0, none⟩ (.int .i64 u)).setCell ⟨w.heap.size, 1, none⟩ (.int .i64 x)).setCell ⟨w.heap.size, 2, none⟩ (.slice bz n nz) = W at *
  clear hsz2
  have hBB2 : w.heap.size + 2 ≤ w1.heap.size + 2 := hBB
  generalize w1.heap.size + 2 = BB at *
  have hRl := HR3.out.lt
  have k0 := HX3.out.cell 0 _ rfl; have k1 := HX3.out.cell 1 _ rfl; have k2 := HX3.out.cell 2 _ rfl
  have hal : Below W.heap.size W (W.alloc (.cells #[.int .i64 x, .int .i64 (x + k), .int .i64 t, .int .i64 1, .bool false, .bool false] 45)) := (Below.refl _ _).alloc (Nat.le_refl _) _
  have HPL : Hid (HoldV (W.alloc (.cells #[.int .i64 x, .int .i64 (x + k), .int .i64 t, .int .i64 1, .bool false, .bool false] 45)) W.heap.size _ 45) := hide (hv_new _ _ _)
  have HO4 := hide (row_mono (HO3.out.next hal) hBB2)
  have HX4 := hide (HX3.out.next hal)
  have HR4 := hide (HR3.out.next hal)
  have HB5 := hide (HB4.out.trans (hal.mono HB4.out.size))
  have hsa : (W.alloc (.cells #[.int .i64 x, .int .i64 (x + k), .int .i64 t, .int .i64 1, .bool false, .bool false] 45)).heap.size = W.heap.size + 1 := World.size_alloc _ _
  have l0 := HX4.out.cell 0 _ rfl; have l1 := HX4.out.cell 1 _ rfl; have l2 := HX4.out.cell 2 _ rfl; have lf := HX4.out.frozen
  clear hal HO3 HX3 HR3 HB4
  go_wp2_with (at_builtin; refine wpList_append_own _ rfl _ _ 27 rfl (w.heap.size + 2) 45 i _ 6 40 Try.underlying27 HI.out HI0.out HI1.out HI2.out rfl (by decide) (.slice bz n nz) n (os.flatMap valPiece) rfl HO4.out ⟨W.heap.size, 0, none⟩ 1 1 (valPiece (newP x k t)) rfl rfl (pc_cells HPL.out) (val_one1 _) (by unfold maxLen; omega) (by omega) (by omega) ?_)
  intro v' w3 hown' hgrow _
  have HO5 : Hid (RowP w3 (w.heap.size + 2) v' (n + 1) (os ++ [newP x k t])) := hide (by unfold RowP; rw [List.flatMap_append]; simpa using hown')
  clear hown'
  obtain ⟨bq, nq, hv'⟩ := HO5.out.form
  subst hv'
  have hkeep : ∀ b, b < w.heap.size + 2 → w3.heap[b]? = (W.alloc (.cells #[.int .i64 x, .int .i64 (x + k), .int .i64 t, .int .i64 1, .bool false, .bool false] 45)).heap[b]? := fun b hb => hgrow.block b (by omega) (fun e => by have := ownsAt.lt (ownsAt.of_row HO4.out) b e.symm; omega)
  have HX5 : Hid (HoldV w3 w.heap.size _ 29) := hide ((hkeep _ (by omega)).trans HX4.out)
  have HR5 : Hid (HoldV w3 (w.heap.size + 1) _ 29) := hide ((hkeep _ (by omega)).trans HR4.out)
  have HB6 : Hid (Below w.heap.size w w3) := hide (HB5.out.trans ⟨hgrow.os, hgrow.tape, hgrow.output, hgrow.size, fun b hb => hkeep b (by omega)⟩)
  clear hkeep hgrow HO4 HX4 HR4 HB5 HPL hsa l0 l1 l2 lf k0 k1 k2
  have l0 := HX5.out.cell 0 _ rfl; have l1 := HX5.out.cell 1 _ rfl; have l2 := HX5.out.cell 2 _ rfl; have lf := HX5.out.frozen
  go_upto_region 8 with fail
  have HX6 := hide (hv_set (hv_set HX5.out 2 (.slice bq (n + 1) nq)) 1 (.int .i64 (x + k)))
  have HR6 := hide (hv_other (hv_other HR5.out (C := w.heap.size) (by omega) 2 (.slice bq (n + 1) nq)) (C := w.heap.size) (by omega) 1 (.int .i64 (x + k)))
  have hg6 : w3.grownBy ((w3.setCell ⟨w.heap.size, 2, none⟩ (.slice bq (n + 1) nq)).setCell ⟨w.heap.size, 1, none⟩ (.int .i64 (x + k))) (some w.heap.size) := gr_set (gr_set (grown_reflp _ _) 2 _) 1 _
  have HO6 := hide (row_gr HO5.out hg6 (by omega))
  have HB7 := hide (below_gr HB6.out hg6 HB6.out.size (Nat.le_refl _))
  clear hg6 HO5 HX5 HR5 HB6 l0 l1 l2 lf
  generalize (w3.setCell ⟨w.heap.size, 2, none⟩ (.slice bq (n + 1) nq)).setCell ⟨w.heap.size, 1, none⟩ (.int .i64 (x + k)) = w4 at *
  have l0 := HX6.out.cell 0 _ rfl; have l1 := HX6.out.cell 1 _ rfl; have l2 := HX6.out.cell 2 _ rfl
  have r0 := HR6.out.cell 0 _ rfl; have r1 := HR6.out.cell 1 _ rfl; have r2 := HR6.out.cell 2 _ rfl; have rf := HR6.out.frozen
  go_wp2_with fail
  exact bodyPost_ret (v := .tuple #[.agg #[.int .i64 u, .int .i64 (x + k), .slice bq (n + 1) nq], .int .i64 0]) (by simp [results, Try.results14, go_sem, r0, r1, r2]) rfl ⟨_, rfl, ownP_mono (row_own (row_gr HO6.out (gr_set (gr_set (gr_set (grown_reflp _ _) 0 _) 1 _) 2 _) (by omega)) (by rw [List.length_append, List.length_singleton, HN.out])) (by omega), below_gr HB7.out (gr_set (gr_set (gr_set (grown_reflp _ _) 0 _) 1 _) 2 _) HB7.out.size (Nat.le_succ _)⟩
end Go.Proofs.Ytddkcgngpclgfaa
