/-
Contracts of functions of this seat.
-/
import Derived.Test.YtddkcgngpclgfabRows
import Derived.WalkKit
import Derived.ProofKit
import Derived.OpenShut
import Derived.Test.YtddkcgngpclgfabBk7
namespace Go.Proofs.Ytddkcgngpclgfab
open Go.ChangeShapes Go.WideShapes Go.ChangeAt Go.RowKit
set_option linter.unusedVariables false
set_option maxRecDepth 100000
set_option maxHeartbeats 8000000 in
theorem implAck_no {u x : Int} {os : List PieceM} (ack : Int) (zs : List Int) (hno : ¬ bOK u x os) : BoardAckP 16 (fun _ => True) u x os ack zs 0 0 [] 0 0 0 1 := by
  intro a n cap aq nq cq w hn ha hc hm hn2 ha2 hc2 hm2 _
  obtain ⟨hb3, hX, hRA, hRB⟩ := three_boxes w #[.int .i64 u, .int .i64 x, .slice a n cap] #[.int .i64 0, .int .i64 0, .slice none 0 0] #[.int .i64 0, .int .i64 0, .int .i64 0] 28 28 41
  have HB2 := hide hb3; have HX := hide hX; have HRA := hide hRA; have HRB := hide hRB
  have k0 := hX.cell 0 _ rfl; have k1 := hX.cell 1 _ rfl; have k2 := hX.cell 2 _ rfl
  have CV := hide (newPieceList_no u x a n cap os (((w.alloc (.cells #[.int .i64 u, .int .i64 x, .slice a n cap] 28)).alloc (.cells #[.int .i64 0, .int .i64 0, .slice none 0 0] 28)).alloc (.cells #[.int .i64 0, .int .i64 0, .int .i64 0] 41)) hn (ha.below hb3 (Nat.le_refl _)) hm hno)
  clear hn ha hno hb3 hX hRA hRB hn2 ha2
  go_enter Try.func16, Try.ntmps16
  go_wp2_with fail
  refine CV.out.mono ?_
  rintro e w1 ⟨rfl, hw1⟩
  have HX1 := hide (HX.out.next hw1); have HRA1 := hide (HRA.out.next hw1); have HRB1 := hide (HRB.out.next hw1)
  have HB1 : Hid (Below w.heap.size w w1) := hide (HB2.out.trans (hw1.mono HB2.out.size))
  clear hw1 CV k0 k1 k2 HB2 HX HRA HRB
  have k0 := HX1.out.cell 0 _ rfl; have k1 := HX1.out.cell 1 _ rfl; have k2 := HX1.out.cell 2 _ rfl
  have r0 := HRA1.out.cell 0 _ rfl; have r1 := HRA1.out.cell 1 _ rfl; have r2 := HRA1.out.cell 2 _ rfl; have rf := HRA1.out.frozen
  have q0 := HRB1.out.cell 0 _ rfl; have q1 := HRB1.out.cell 1 _ rfl; have q2 := HRB1.out.cell 2 _ rfl; have qf := HRB1.out.frozen
  go_wp2_with fail
  exact bodyPost_ret (v := .tuple #[.agg #[.int .i64 0, .int .i64 0, .slice none 0 0], .agg #[.int .i64 0, .int .i64 0, .int .i64 0], .int .i64 1]) (by simp [results, Try.results16, go_sem, r0, r1, r2, q0, q1, q2]) rfl ⟨_, rfl, ownP_nil _ _, below_gr (below_gr HB1.out (gr_set (gr_set (gr_set (grown_reflp _ _) 0 _) 1 _) 2 _) HB1.out.size (Nat.le_succ _)) (Y := w.heap.size + 2) (gr_set (gr_set (gr_set (grown_reflp _ _) 0 _) 1 _) 2 _) (by simp; exact HB1.out.size) (by omega)⟩

set_option maxHeartbeats 16000000 in
theorem implAck_form {u x : Int} {os : List PieceM} (ack : Int) (zs : List Int) (hok : bOK u x os) (hf : ¬ ((u ≤ ack ∧ ack ≤ x) ∧ zs.length ≤ 6)) : BoardAckP 16 (fun _ => True) u x os ack zs 0 0 [] 0 0 0 1 := by
  intro a n cap aq nq cq w hn ha hc hm hn2 ha2 hc2 hm2 _
  obtain ⟨hb3, hX, hRA, hRB⟩ := three_boxes w #[.int .i64 u, .int .i64 x, .slice a n cap] #[.int .i64 0, .int .i64 0, .slice none 0 0] #[.int .i64 0, .int .i64 0, .int .i64 0] 28 28 41
  have HB2 := hide hb3; have HX := hide hX; have HRA := hide hRA; have HRB := hide hRB
  have k0 := hX.cell 0 _ rfl; have k1 := hX.cell 1 _ rfl; have k2 := hX.cell 2 _ rfl
  have CV := hide (newPieceList_yes u x a n cap os (((w.alloc (.cells #[.int .i64 u, .int .i64 x, .slice a n cap] 28)).alloc (.cells #[.int .i64 0, .int .i64 0, .slice none 0 0] 28)).alloc (.cells #[.int .i64 0, .int .i64 0, .int .i64 0] 41)) hn (ha.below hb3 (Nat.le_refl _)) hm hok)
  have hf2 : ack < u ∨ (¬ ack < u ∧ x < ack) ∨ ((¬ ack < u ∧ ¬ x < ack) ∧ 3 < (nq : Int)) := by omega
  clear hn ha hok hb3 hX hRA hRB hn2 ha2 hf
  rcases hf2 with e1 | ⟨e1, e2⟩ | ⟨⟨e1, e2⟩, e3⟩
  · go_enter Try.func16, Try.ntmps16
    go_wp2_with fail
    generalize ((w.alloc (.cells #[.int .i64 u, .int .i64 x, .slice a n cap] 28)).alloc (.cells #[.int .i64 0, .int .i64 0, .slice none 0 0] 28)).alloc (.cells #[.int .i64 0, .int .i64 0, .int .i64 0] 41) = V at *
    refine CV.out.mono ?_
    rintro e w1 ⟨L, ns, rfl, hD, hM, hw1⟩
    clear hD hM
    have HX1 := hide (HX.out.next hw1); have HRA1 := hide (HRA.out.next hw1); have HRB1 := hide (HRB.out.next hw1)
    have HB1 : Hid (Below w.heap.size w w1) := hide (HB2.out.trans (hw1.mono HB2.out.size))
    clear hw1 CV k0 k1 k2 HB2 HX HRA HRB
    have k0 := HX1.out.cell 0 _ rfl; have k1 := HX1.out.cell 1 _ rfl; have k2 := HX1.out.cell 2 _ rfl
    have r0 := HRA1.out.cell 0 _ rfl; have r1 := HRA1.out.cell 1 _ rfl; have r2 := HRA1.out.cell 2 _ rfl; have rf := HRA1.out.frozen
    have q0 := HRB1.out.cell 0 _ rfl; have q1 := HRB1.out.cell 1 _ rfl; have q2 := HRB1.out.cell 2 _ rfl; have qf := HRB1.out.frozen
    go_wp2_with fail
    exact bodyPost_ret (v := .tuple #[.agg #[.int .i64 0, .int .i64 0, .slice none 0 0], .agg #[.int .i64 0, .int .i64 0, .int .i64 0], .int .i64 1]) (by simp [results, Try.results16, go_sem, r0, r1, r2, q0, q1, q2]) rfl ⟨_, rfl, ownP_nil _ _, below_gr (below_gr HB1.out (gr_set (gr_set (gr_set (grown_reflp _ _) 0 _) 1 _) 2 _) HB1.out.size (Nat.le_succ _)) (Y := w.heap.size + 2) (gr_set (gr_set (gr_set (grown_reflp _ _) 0 _) 1 _) 2 _) (by simp; exact HB1.out.size) (by omega)⟩
  · go_enter Try.func16, Try.ntmps16
    go_wp2_with fail
    generalize ((w.alloc (.cells #[.int .i64 u, .int .i64 x, .slice a n cap] 28)).alloc (.cells #[.int .i64 0, .int .i64 0, .slice none 0 0] 28)).alloc (.cells #[.int .i64 0, .int .i64 0, .int .i64 0] 41) = V at *
    refine CV.out.mono ?_
    rintro e w1 ⟨L, ns, rfl, hD, hM, hw1⟩
    clear hD hM
    have HX1 := hide (HX.out.next hw1); have HRA1 := hide (HRA.out.next hw1); have HRB1 := hide (HRB.out.next hw1)
    have HB1 : Hid (Below w.heap.size w w1) := hide (HB2.out.trans (hw1.mono HB2.out.size))
    clear hw1 CV k0 k1 k2 HB2 HX HRA HRB
    have k0 := HX1.out.cell 0 _ rfl; have k1 := HX1.out.cell 1 _ rfl; have k2 := HX1.out.cell 2 _ rfl
    have r0 := HRA1.out.cell 0 _ rfl; have r1 := HRA1.out.cell 1 _ rfl; have r2 := HRA1.out.cell 2 _ rfl; have rf := HRA1.out.frozen
    have q0 := HRB1.out.cell 0 _ rfl; have q1 := HRB1.out.cell 1 _ rfl; have q2 := HRB1.out.cell 2 _ rfl; have qf := HRB1.out.frozen
    go_wp2_with fail
    exact bodyPost_ret (v := .tuple #[.agg #[.int .i64 0, .int .i64 0, .slice none 0 0], .agg #[.int .i64 0, .int .i64 0, .int .i64 0], .int .i64 1]) (by simp [results, Try.results16, go_sem, r0, r1, r2, q0, q1, q2]) rfl ⟨_, rfl, ownP_nil _ _, below_gr (below_gr HB1.out (gr_set (gr_set (gr_set (grown_reflp _ _) 0 _) 1 _) 2 _) HB1.out.size (Nat.le_succ _)) (Y := w.heap.size + 2) (gr_set (gr_set (gr_set (grown_reflp _ _) 0 _) 1 _) 2 _) (by simp; exact HB1.out.size) (by omega)⟩
  · go_enter Try.func16, Try.ntmps16
    go_wp2_with fail
    generalize ((w.alloc (.cells #[.int .i64 u, .int .i64 x, .slice a n cap] 28)).alloc (.cells #[.int .i64 0, .int .i64 0, .slice none 0 0] 28)).alloc (.cells #[.int .i64 0, .int .i64 0, .int .i64 0] 41) = V at *
    refine CV.out.mono ?_
    rintro e w1 ⟨L, ns, rfl, hD, hM, hw1⟩
    clear hD hM
    have HX1 := hide (HX.out.next hw1); have HRA1 := hide (HRA.out.next hw1); have HRB1 := hide (HRB.out.next hw1)
    have HB1 : Hid (Below w.heap.size w w1) := hide (HB2.out.trans (hw1.mono HB2.out.size))
    clear hw1 CV k0 k1 k2 HB2 HX HRA HRB
    have k0 := HX1.out.cell 0 _ rfl; have k1 := HX1.out.cell 1 _ rfl; have k2 := HX1.out.cell 2 _ rfl
    have r0 := HRA1.out.cell 0 _ rfl; have r1 := HRA1.out.cell 1 _ rfl; have r2 := HRA1.out.cell 2 _ rfl; have rf := HRA1.out.frozen
    have q0 := HRB1.out.cell 0 _ rfl; have q1 := HRB1.out.cell 1 _ rfl; have q2 := HRB1.out.cell 2 _ rfl; have qf := HRB1.out.frozen
    go_wp2_with fail
    exact bodyPost_ret (v := .tuple #[.agg #[.int .i64 0, .int .i64 0, .slice none 0 0], .agg #[.int .i64 0, .int .i64 0, .int .i64 0], .int .i64 1]) (by simp [results, Try.results16, go_sem, r0, r1, r2, q0, q1, q2]) rfl ⟨_, rfl, ownP_nil _ _, below_gr (below_gr HB1.out (gr_set (gr_set (gr_set (grown_reflp _ _) 0 _) 1 _) 2 _) HB1.out.size (Nat.le_succ _)) (Y := w.heap.size + 2) (gr_set (gr_set (gr_set (grown_reflp _ _) 0 _) 1 _) 2 _) (by simp; exact HB1.out.size) (by omega)⟩

set_option maxHeartbeats 8000000 in
theorem specAck_no {u x : Int} {os : List PieceM} (ack : Int) (zs : List Int) (hno : ¬ bOK u x os) : BoardAckP 14 (fun _ => True) u x os ack zs 0 0 [] 0 0 0 1 := by
  intro a n cap aq nq cq w hn ha hc hm hn2 ha2 hc2 hm2 _
  obtain ⟨hb3, hX, hRA, hRB⟩ := three_boxes w #[.int .i64 u, .int .i64 x, .slice a n cap] #[.int .i64 0, .int .i64 0, .slice none 0 0] #[.int .i64 0, .int .i64 0, .int .i64 0] 28 28 41
  have HB2 := hide hb3; have HX := hide hX; have HRA := hide hRA; have HRB := hide hRB
  have k0 := hX.cell 0 _ rfl; have k1 := hX.cell 1 _ rfl; have k2 := hX.cell 2 _ rfl
  have CV := hide (l15OK_walk u x a n cap os (((w.alloc (.cells #[.int .i64 u, .int .i64 x, .slice a n cap] 28)).alloc (.cells #[.int .i64 0, .int .i64 0, .slice none 0 0] 28)).alloc (.cells #[.int .i64 0, .int .i64 0, .int .i64 0] 41)) hn (ha.below hb3 (Nat.le_refl _)) hm)
  rw [bokB_no hno] at CV
  clear hn ha hno hb3 hX hRA hRB hn2 ha2
  go_enter Try.func14, Try.ntmps14
  go_wp2_with fail
  refine CV.out.mono ?_
  rintro e w1 ⟨rfl, hw1⟩
  have HX1 := hide (HX.out.next hw1); have HRA1 := hide (HRA.out.next hw1); have HRB1 := hide (HRB.out.next hw1)
  have HB1 : Hid (Below w.heap.size w w1) := hide (HB2.out.trans (hw1.mono HB2.out.size))
  clear hw1 CV k0 k1 k2 HB2 HX HRA HRB
  have k0 := HX1.out.cell 0 _ rfl; have k1 := HX1.out.cell 1 _ rfl; have k2 := HX1.out.cell 2 _ rfl
  have r0 := HRA1.out.cell 0 _ rfl; have r1 := HRA1.out.cell 1 _ rfl; have r2 := HRA1.out.cell 2 _ rfl; have rf := HRA1.out.frozen
  have q0 := HRB1.out.cell 0 _ rfl; have q1 := HRB1.out.cell 1 _ rfl; have q2 := HRB1.out.cell 2 _ rfl; have qf := HRB1.out.frozen
  go_wp2_with fail
  exact bodyPost_ret (v := .tuple #[.agg #[.int .i64 0, .int .i64 0, .slice none 0 0], .agg #[.int .i64 0, .int .i64 0, .int .i64 0], .int .i64 1]) (by simp [results, Try.results14, go_sem, r0, r1, r2, q0, q1, q2]) rfl ⟨_, rfl, ownP_nil _ _, below_gr (below_gr HB1.out (gr_set (gr_set (gr_set (grown_reflp _ _) 0 _) 1 _) 2 _) HB1.out.size (Nat.le_succ _)) (Y := w.heap.size + 2) (gr_set (gr_set (gr_set (grown_reflp _ _) 0 _) 1 _) 2 _) (by simp; exact HB1.out.size) (by omega)⟩

set_option maxHeartbeats 16000000 in
theorem specAck_form {u x : Int} {os : List PieceM} (ack : Int) (zs : List Int) (hok : bOK u x os) (hf : ¬ ((u ≤ ack ∧ ack ≤ x) ∧ zs.length ≤ 6)) : BoardAckP 14 (fun _ => True) u x os ack zs 0 0 [] 0 0 0 1 := by
  intro a n cap aq nq cq w hn ha hc hm hn2 ha2 hc2 hm2 _
  obtain ⟨hb3, hX, hRA, hRB⟩ := three_boxes w #[.int .i64 u, .int .i64 x, .slice a n cap] #[.int .i64 0, .int .i64 0, .slice none 0 0] #[.int .i64 0, .int .i64 0, .int .i64 0] 28 28 41
  have HB2 := hide hb3; have HX := hide hX; have HRA := hide hRA; have HRB := hide hRB
  have k0 := hX.cell 0 _ rfl; have k1 := hX.cell 1 _ rfl; have k2 := hX.cell 2 _ rfl
  have CV := hide (l15OK_walk u x a n cap os (((w.alloc (.cells #[.int .i64 u, .int .i64 x, .slice a n cap] 28)).alloc (.cells #[.int .i64 0, .int .i64 0, .slice none 0 0] 28)).alloc (.cells #[.int .i64 0, .int .i64 0, .int .i64 0] 41)) hn (ha.below hb3 (Nat.le_refl _)) hm)
  rw [bokB_yes hok] at CV
  have hf2 : ack < u ∨ (¬ ack < u ∧ x < ack) ∨ ((¬ ack < u ∧ ¬ x < ack) ∧ 3 < (nq : Int)) := by omega
  clear hn ha hok hb3 hX hRA hRB hn2 ha2 hf
  rcases hf2 with e1 | ⟨e1, e2⟩ | ⟨⟨e1, e2⟩, e3⟩
  · have h1 : inB ack u x = false := decide_eq_false (fun h => by omega)
    go_enter Try.func14, Try.ntmps14
    go_wp2_with fail
    refine CV.out.mono ?_
    rintro e w1 ⟨rfl, hw1⟩
    have HX1 := hide (HX.out.next hw1); have HRA1 := hide (HRA.out.next hw1); have HRB1 := hide (HRB.out.next hw1)
    have HB1 : Hid (Below w.heap.size w w1) := hide (HB2.out.trans (hw1.mono HB2.out.size))
    clear hw1 CV k0 k1 k2 HB2 HX HRA HRB
    have k0 := HX1.out.cell 0 _ rfl; have k1 := HX1.out.cell 1 _ rfl; have k2 := HX1.out.cell 2 _ rfl
    have r0 := HRA1.out.cell 0 _ rfl; have r1 := HRA1.out.cell 1 _ rfl; have r2 := HRA1.out.cell 2 _ rfl; have rf := HRA1.out.frozen
    have q0 := HRB1.out.cell 0 _ rfl; have q1 := HRB1.out.cell 1 _ rfl; have q2 := HRB1.out.cell 2 _ rfl; have qf := HRB1.out.frozen
    go_wp2_with (go_at_call 22; refine (In_walk _ _ _ _).mono ?_; rintro e w9 ⟨rfl, hq⟩; rw [hq]; clear hq)
    exact bodyPost_ret (v := .tuple #[.agg #[.int .i64 0, .int .i64 0, .slice none 0 0], .agg #[.int .i64 0, .int .i64 0, .int .i64 0], .int .i64 1]) (by simp [results, Try.results14, go_sem, r0, r1, r2, q0, q1, q2]) rfl ⟨_, rfl, ownP_nil _ _, below_gr (below_gr HB1.out (gr_set (gr_set (gr_set (grown_reflp _ _) 0 _) 1 _) 2 _) HB1.out.size (Nat.le_succ _)) (Y := w.heap.size + 2) (gr_set (gr_set (gr_set (grown_reflp _ _) 0 _) 1 _) 2 _) (by simp; exact HB1.out.size) (by omega)⟩
  · have h1 : inB ack u x = false := decide_eq_false (fun h => by omega)
    go_enter Try.func14, Try.ntmps14
    go_wp2_with fail
    refine CV.out.mono ?_
    rintro e w1 ⟨rfl, hw1⟩
    have HX1 := hide (HX.out.next hw1); have HRA1 := hide (HRA.out.next hw1); have HRB1 := hide (HRB.out.next hw1)
    have HB1 : Hid (Below w.heap.size w w1) := hide (HB2.out.trans (hw1.mono HB2.out.size))
    clear hw1 CV k0 k1 k2 HB2 HX HRA HRB
    have k0 := HX1.out.cell 0 _ rfl; have k1 := HX1.out.cell 1 _ rfl; have k2 := HX1.out.cell 2 _ rfl
    have r0 := HRA1.out.cell 0 _ rfl; have r1 := HRA1.out.cell 1 _ rfl; have r2 := HRA1.out.cell 2 _ rfl; have rf := HRA1.out.frozen
    have q0 := HRB1.out.cell 0 _ rfl; have q1 := HRB1.out.cell 1 _ rfl; have q2 := HRB1.out.cell 2 _ rfl; have qf := HRB1.out.frozen
    go_wp2_with (go_at_call 22; refine (In_walk _ _ _ _).mono ?_; rintro e w9 ⟨rfl, hq⟩; rw [hq]; clear hq)
    exact bodyPost_ret (v := .tuple #[.agg #[.int .i64 0, .int .i64 0, .slice none 0 0], .agg #[.int .i64 0, .int .i64 0, .int .i64 0], .int .i64 1]) (by simp [results, Try.results14, go_sem, r0, r1, r2, q0, q1, q2]) rfl ⟨_, rfl, ownP_nil _ _, below_gr (below_gr HB1.out (gr_set (gr_set (gr_set (grown_reflp _ _) 0 _) 1 _) 2 _) HB1.out.size (Nat.le_succ _)) (Y := w.heap.size + 2) (gr_set (gr_set (gr_set (grown_reflp _ _) 0 _) 1 _) 2 _) (by simp; exact HB1.out.size) (by omega)⟩
  · have h1 : inB ack u x = true := inB_iff.2 ⟨by omega, by omega⟩
    go_enter Try.func14, Try.ntmps14
    go_wp2_with fail
    refine CV.out.mono ?_
    rintro e w1 ⟨rfl, hw1⟩
    have HX1 := hide (HX.out.next hw1); have HRA1 := hide (HRA.out.next hw1); have HRB1 := hide (HRB.out.next hw1)
    have HB1 : Hid (Below w.heap.size w w1) := hide (HB2.out.trans (hw1.mono HB2.out.size))
    clear hw1 CV k0 k1 k2 HB2 HX HRA HRB
    have k0 := HX1.out.cell 0 _ rfl; have k1 := HX1.out.cell 1 _ rfl; have k2 := HX1.out.cell 2 _ rfl
    have r0 := HRA1.out.cell 0 _ rfl; have r1 := HRA1.out.cell 1 _ rfl; have r2 := HRA1.out.cell 2 _ rfl; have rf := HRA1.out.frozen
    have q0 := HRB1.out.cell 0 _ rfl; have q1 := HRB1.out.cell 1 _ rfl; have q2 := HRB1.out.cell 2 _ rfl; have qf := HRB1.out.frozen
    go_wp2_with (go_at_call 22; refine (In_walk _ _ _ _).mono ?_; rintro e w9 ⟨rfl, hq⟩; rw [hq]; clear hq)
    exact bodyPost_ret (v := .tuple #[.agg #[.int .i64 0, .int .i64 0, .slice none 0 0], .agg #[.int .i64 0, .int .i64 0, .int .i64 0], .int .i64 1]) (by simp [results, Try.results14, go_sem, r0, r1, r2, q0, q1, q2]) rfl ⟨_, rfl, ownP_nil _ _, below_gr (below_gr HB1.out (gr_set (gr_set (gr_set (grown_reflp _ _) 0 _) 1 _) 2 _) HB1.out.size (Nat.le_succ _)) (Y := w.heap.size + 2) (gr_set (gr_set (gr_set (grown_reflp _ _) 0 _) 1 _) 2 _) (by simp; exact HB1.out.size) (by omega)⟩
end Go.Proofs.Ytddkcgngpclgfab
