/-
Contracts of functions of this seat.
-/
import Derived.Test.YtfffkgladjphoaaRows
import Derived.WalkKit
import Derived.ProofKit
import Derived.OpenShut
import Derived.Test.YtfffkgladjphoaaBa0
import Derived.Test.YtfffkgladjphoaaL1BoardAgain
namespace Go.Proofs.Ytfffkgladjphoaa
open Go.ChangeShapes Go.WideShapes Go.ChangeAt Go.RowKit
set_option linter.unusedVariables false
set_option maxRecDepth 100000
theorem map_split : ∀ (ns : List (Nat × PieceM)) (a b : List PieceM), ns.map Prod.snd = a ++ b → ∃ xs zs, ns = xs ++ zs ∧ xs.map Prod.snd = a ∧ zs.map Prod.snd = b
  | ns, [], b, h => ⟨[], ns, rfl, rfl, h⟩
  | [], a :: r, b, h => by simp at h
  | p :: ns, a :: r, b, h => by
    rw [List.map_cons, List.cons_append] at h
    obtain ⟨xs, zs, h1, h2, h3⟩ := map_split ns r b (List.cons.inj h).2
    exact ⟨p :: xs, zs, by rw [h1]; rfl, by rw [List.map_cons, h2, (List.cons.inj h).1], h3⟩
set_option maxHeartbeats 8000000 in
theorem implAgain_no {u x : Int} {os : List PieceM} (t : Int) (hno : ¬ bOK u x os) : BoardAgainP 13 (fun _ => True) u x os t 0 0 [] 0 0 0 0 false false 1 := by
  intro a n cap w hn ha hc hm _
  obtain ⟨hb2, hX, hR, hQ⟩ := three_boxes w #[.int .i64 u, .int .i64 x, .slice a n cap] #[.int .i64 0, .int .i64 0, .slice none 0 0] #[.int .i64 0, .int .i64 0, .int .i64 0, .int .i64 0, .bool false, .bool false] 28 28 36
  have HB2 := hide hb2; have HX := hide hX; have HR := hide hR; have HQ := hide hQ
  have k0 := hX.cell 0 _ rfl; have k1 := hX.cell 1 _ rfl; have k2 := hX.cell 2 _ rfl
  have hV : w.heap.size + 2 < (((w.alloc (.cells #[.int .i64 u, .int .i64 x, .slice a n cap] 28)).alloc (.cells #[.int .i64 0, .int .i64 0, .slice none 0 0] 28)).alloc (.cells #[.int .i64 0, .int .i64 0, .int .i64 0, .int .i64 0, .bool false, .bool false] 36)).heap.size := hQ.lt
  have HN := hide hn
  have HA := hide (ha.below hb2 (Nat.le_refl _))
  have CV := hide (newPieceList_no u x a n cap os (((w.alloc (.cells #[.int .i64 u, .int .i64 x, .slice a n cap] 28)).alloc (.cells #[.int .i64 0, .int .i64 0, .slice none 0 0] 28)).alloc (.cells #[.int .i64 0, .int .i64 0, .int .i64 0, .int .i64 0, .bool false, .bool false] 36)) hn (ha.below hb2 (Nat.le_refl _)) hm hno)
  clear hn ha hno hb2 hX hR hQ HA HN
  go_enter Try.func13, Try.ntmps13
  go_wp2_with fail
  refine CV.out.mono ?_
  rintro e w1 ⟨rfl, hw1⟩
  have HR1 := hide (HR.out.next hw1); have HQ1 := hide (HQ.out.next hw1)
  have HB1 : Hid (Below w.heap.size w w1) := hide (HB2.out.trans (hw1.mono HB2.out.size))
  have r0 := HR1.out.cell 0 _ rfl; have r1 := HR1.out.cell 1 _ rfl; have r2 := HR1.out.cell 2 _ rfl; have rf := HR1.out.frozen
  have q0 := HQ1.out.cell 0 _ rfl; have q1 := HQ1.out.cell 1 _ rfl; have q2 := HQ1.out.cell 2 _ rfl; have q3 := HQ1.out.cell 3 _ rfl; have q4 := HQ1.out.cell 4 _ rfl; have q5 := HQ1.out.cell 5 _ rfl; have qf := HQ1.out.frozen
  clear hw1 CV k0 k1 k2 HB2 HX HR HQ
  go_wp2_with fail
  exact bodyPost_ret (v := .tuple #[.agg #[.int .i64 0, .int .i64 0, .slice none 0 0], .agg #[.int .i64 0, .int .i64 0, .int .i64 0, .int .i64 0, .bool false, .bool false], .int .i64 1]) (by simp [results, Try.results13, go_sem, r0, r1, r2, q0, q1, q2, q3, q4, q5]) rfl ⟨_, rfl, ownP_nil _ _, below_gr (below_gr HB1.out (gr_set (gr_set (gr_set (grown_reflp _ _) 0 _) 1 _) 2 _) HB1.out.size (Nat.le_succ _)) (gr_set (gr_set (gr_set (gr_set (gr_set (gr_set (grown_reflp _ _) 0 _) 1 _) 2 _) 3 _) 4 _) 5 _) (by simp; exact HB1.out.size) (by omega)⟩

set_option maxHeartbeats 8000000 in
theorem specAgain_no {u x : Int} {os : List PieceM} (t : Int) (hno : ¬ bOK u x os) : BoardAgainP 12 (fun _ => True) u x os t 0 0 [] 0 0 0 0 false false 1 := by
  intro a n cap w hn ha hc hm _
  obtain ⟨hb2, hX, hR, hQ⟩ := three_boxes w #[.int .i64 u, .int .i64 x, .slice a n cap] #[.int .i64 0, .int .i64 0, .slice none 0 0] #[.int .i64 0, .int .i64 0, .int .i64 0, .int .i64 0, .bool false, .bool false] 28 28 36
  have HB2 := hide hb2; have HX := hide hX; have HR := hide hR; have HQ := hide hQ
  have k0 := hX.cell 0 _ rfl; have k1 := hX.cell 1 _ rfl; have k2 := hX.cell 2 _ rfl
  have hV : w.heap.size + 2 < (((w.alloc (.cells #[.int .i64 u, .int .i64 x, .slice a n cap] 28)).alloc (.cells #[.int .i64 0, .int .i64 0, .slice none 0 0] 28)).alloc (.cells #[.int .i64 0, .int .i64 0, .int .i64 0, .int .i64 0, .bool false, .bool false] 36)).heap.size := hQ.lt
  have HN := hide hn
  have HA := hide (ha.below hb2 (Nat.le_refl _))
  have CV := hide (l15OK_walk u x a n cap os (((w.alloc (.cells #[.int .i64 u, .int .i64 x, .slice a n cap] 28)).alloc (.cells #[.int .i64 0, .int .i64 0, .slice none 0 0] 28)).alloc (.cells #[.int .i64 0, .int .i64 0, .int .i64 0, .int .i64 0, .bool false, .bool false] 36)) hn (ha.below hb2 (Nat.le_refl _)) hm)
  rw [bokB_no hno] at CV
  clear hn ha hno hb2 hX hR hQ HA HN
  go_enter Try.func12, Try.ntmps12
  go_wp2_with fail
  refine CV.out.mono ?_
  rintro e w1 ⟨rfl, hw1⟩
  have HR1 := hide (HR.out.next hw1); have HQ1 := hide (HQ.out.next hw1)
  have HB1 : Hid (Below w.heap.size w w1) := hide (HB2.out.trans (hw1.mono HB2.out.size))
  have r0 := HR1.out.cell 0 _ rfl; have r1 := HR1.out.cell 1 _ rfl; have r2 := HR1.out.cell 2 _ rfl; have rf := HR1.out.frozen
  have q0 := HQ1.out.cell 0 _ rfl; have q1 := HQ1.out.cell 1 _ rfl; have q2 := HQ1.out.cell 2 _ rfl; have q3 := HQ1.out.cell 3 _ rfl; have q4 := HQ1.out.cell 4 _ rfl; have q5 := HQ1.out.cell 5 _ rfl; have qf := HQ1.out.frozen
  clear hw1 CV k0 k1 k2 HB2 HX HR HQ
  go_wp2_with fail
  exact bodyPost_ret (v := .tuple #[.agg #[.int .i64 0, .int .i64 0, .slice none 0 0], .agg #[.int .i64 0, .int .i64 0, .int .i64 0, .int .i64 0, .bool false, .bool false], .int .i64 1]) (by simp [results, Try.results12, go_sem, r0, r1, r2, q0, q1, q2, q3, q4, q5]) rfl ⟨_, rfl, ownP_nil _ _, below_gr (below_gr HB1.out (gr_set (gr_set (gr_set (grown_reflp _ _) 0 _) 1 _) 2 _) HB1.out.size (Nat.le_succ _)) (gr_set (gr_set (gr_set (gr_set (gr_set (gr_set (grown_reflp _ _) 0 _) 1 _) 2 _) 3 _) 4 _) 5 _) (by simp; exact HB1.out.size) (by omega)⟩

set_option maxHeartbeats 8000000 in
theorem implAgain_form {u x : Int} {os : List PieceM} (t : Int) (hok : bOK u x os) (ht : ¬ (0 ≤ t ∧ t ≤ 1000000000)) : BoardAgainP 13 (fun _ => True) u x os t 0 0 [] 0 0 0 0 false false 1 := by
  intro a n cap w hn ha hc hm _
  obtain ⟨hb2, hX, hR, hQ⟩ := three_boxes w #[.int .i64 u, .int .i64 x, .slice a n cap] #[.int .i64 0, .int .i64 0, .slice none 0 0] #[.int .i64 0, .int .i64 0, .int .i64 0, .int .i64 0, .bool false, .bool false] 28 28 36
  have HB2 := hide hb2; have HX := hide hX; have HR := hide hR; have HQ := hide hQ
  have k0 := hX.cell 0 _ rfl; have k1 := hX.cell 1 _ rfl; have k2 := hX.cell 2 _ rfl
  have hV : w.heap.size + 2 < (((w.alloc (.cells #[.int .i64 u, .int .i64 x, .slice a n cap] 28)).alloc (.cells #[.int .i64 0, .int .i64 0, .slice none 0 0] 28)).alloc (.cells #[.int .i64 0, .int .i64 0, .int .i64 0, .int .i64 0, .bool false, .bool false] 36)).heap.size := hQ.lt
  have HN := hide hn
  have HA := hide (ha.below hb2 (Nat.le_refl _))
  have CV := hide (newPieceList_yes u x a n cap os (((w.alloc (.cells #[.int .i64 u, .int .i64 x, .slice a n cap] 28)).alloc (.cells #[.int .i64 0, .int .i64 0, .slice none 0 0] 28)).alloc (.cells #[.int .i64 0, .int .i64 0, .int .i64 0, .int .i64 0, .bool false, .bool false] 36)) hn (ha.below hb2 (Nat.le_refl _)) hm hok)
  have HOK := hide hok
  have HTI := hide (fun W => isTime_walk t W)
  rw [show inB t 0 1000000000 = false from decide_eq_false ht] at HTI
  clear ht
  clear hn ha hok hb2 hX hR hQ HA
  go_enter Try.func13, Try.ntmps13
  go_wp2_with fail
  generalize ((w.alloc (.cells #[.int .i64 u, .int .i64 x, .slice a n cap] 28)).alloc (.cells #[.int .i64 0, .int .i64 0, .slice none 0 0] 28)).alloc (.cells #[.int .i64 0, .int .i64 0, .int .i64 0, .int .i64 0, .bool false, .bool false] 36) = V at *
  refine CV.out.mono ?_
  rintro e w1 ⟨L, ns, rfl, hD, hM, hw1⟩
  have HR1 := hide (HR.out.next hw1); have HQ1 := hide (HQ.out.next hw1)
  have HB1 : Hid (Below w.heap.size w w1) := hide (HB2.out.trans (hw1.mono HB2.out.size))
  have r0 := HR1.out.cell 0 _ rfl; have r1 := HR1.out.cell 1 _ rfl; have r2 := HR1.out.cell 2 _ rfl; have rf := HR1.out.frozen
  have q0 := HQ1.out.cell 0 _ rfl; have q1 := HQ1.out.cell 1 _ rfl; have q2 := HQ1.out.cell 2 _ rfl; have q3 := HQ1.out.cell 3 _ rfl; have q4 := HQ1.out.cell 4 _ rfl; have q5 := HQ1.out.cell 5 _ rfl; have qf := HQ1.out.frozen
  clear hw1 CV k0 k1 k2 HB2 HX HR HQ hD hM
  go_wp2_with (go_at_call 27; with_reducible refine (HTI.out _).mono ?_; rintro e w2 ⟨rfl, rfl⟩)
  exact bodyPost_ret (v := .tuple #[.agg #[.int .i64 0, .int .i64 0, .slice none 0 0], .agg #[.int .i64 0, .int .i64 0, .int .i64 0, .int .i64 0, .bool false, .bool false], .int .i64 1]) (by simp [results, Try.results13, go_sem, r0, r1, r2, q0, q1, q2, q3, q4, q5]) rfl ⟨_, rfl, ownP_nil _ _, below_gr (below_gr HB1.out (gr_set (gr_set (gr_set (grown_reflp _ _) 0 _) 1 _) 2 _) HB1.out.size (Nat.le_succ _)) (gr_set (gr_set (gr_set (gr_set (gr_set (gr_set (grown_reflp _ _) 0 _) 1 _) 2 _) 3 _) 4 _) 5 _) (by simp; exact HB1.out.size) (by omega)⟩

set_option maxHeartbeats 8000000 in
theorem implAgain_none {u x : Int} {os : List PieceM} (t : Int) (hok : bOK u x os) (ht : 0 ≤ t ∧ t ≤ 1000000000) (hno : ∀ o ∈ os, o.f5 = false) : BoardAgainP 13 (fun _ => True) u x os t 0 0 [] 0 0 0 0 false false 13 := by
  intro a n cap w hn ha hc hm _
  obtain ⟨hb2, hX, hR, hQ⟩ := three_boxes w #[.int .i64 u, .int .i64 x, .slice a n cap] #[.int .i64 0, .int .i64 0, .slice none 0 0] #[.int .i64 0, .int .i64 0, .int .i64 0, .int .i64 0, .bool false, .bool false] 28 28 36
  have HB2 := hide hb2; have HX := hide hX; have HR := hide hR; have HQ := hide hQ
  have k0 := hX.cell 0 _ rfl; have k1 := hX.cell 1 _ rfl; have k2 := hX.cell 2 _ rfl
  have hV : w.heap.size + 2 < (((w.alloc (.cells #[.int .i64 u, .int .i64 x, .slice a n cap] 28)).alloc (.cells #[.int .i64 0, .int .i64 0, .slice none 0 0] 28)).alloc (.cells #[.int .i64 0, .int .i64 0, .int .i64 0, .int .i64 0, .bool false, .bool false] 36)).heap.size := hQ.lt
  have HN := hide hn
  have HA := hide (ha.below hb2 (Nat.le_refl _))
  have CV := hide (newPieceList_yes u x a n cap os (((w.alloc (.cells #[.int .i64 u, .int .i64 x, .slice a n cap] 28)).alloc (.cells #[.int .i64 0, .int .i64 0, .slice none 0 0] 28)).alloc (.cells #[.int .i64 0, .int .i64 0, .int .i64 0, .int .i64 0, .bool false, .bool false] 36)) hn (ha.below hb2 (Nat.le_refl _)) hm hok)
  have HOK := hide hok
  have HTI := hide (fun W => isTime_walk t W)
  rw [inB_iff.2 ht] at HTI
  have HNO := hide hno
  clear ht hno
  clear hn ha hok hb2 hX hR hQ HA
  go_enter Try.func13, Try.ntmps13
  go_wp2_with fail
  generalize ((w.alloc (.cells #[.int .i64 u, .int .i64 x, .slice a n cap] 28)).alloc (.cells #[.int .i64 0, .int .i64 0, .slice none 0 0] 28)).alloc (.cells #[.int .i64 0, .int .i64 0, .int .i64 0, .int .i64 0, .bool false, .bool false] 36) = V at *
  refine CV.out.mono ?_
  rintro e w1 ⟨L, ns, rfl, hD, hM, hw1⟩
  have CF := hide (firstLost_walk _ L u x ns ns [] none w1 hD (by rw [List.append_nil]) (fun q hq => HNO.out q.2 (by rw [← hM]; exact List.mem_map_of_mem hq)) (.inl ⟨rfl, rfl⟩))
  rw [show ptO none = Value.pointer none from rfl] at CF
  have HR1 := hide (HR.out.next hw1); have HQ1 := hide (HQ.out.next hw1)
  have HB1 : Hid (Below w.heap.size w w1) := hide (HB2.out.trans (hw1.mono HB2.out.size))
  have r0 := HR1.out.cell 0 _ rfl; have r1 := HR1.out.cell 1 _ rfl; have r2 := HR1.out.cell 2 _ rfl; have rf := HR1.out.frozen
  have q0 := HQ1.out.cell 0 _ rfl; have q1 := HQ1.out.cell 1 _ rfl; have q2 := HQ1.out.cell 2 _ rfl; have q3 := HQ1.out.cell 3 _ rfl; have q4 := HQ1.out.cell 4 _ rfl; have q5 := HQ1.out.cell 5 _ rfl; have qf := HQ1.out.frozen
  clear hw1 CV k0 k1 k2 HB2 HX HR HQ hD hM
  go_wp2_with (first | (go_at_call 27; with_reducible refine (HTI.out _).mono ?_; rintro e w2 ⟨rfl, rfl⟩) | (go_at_call 28; with_reducible refine CF.out.mono ?_; rintro e w2 ⟨rfl, rfl⟩))
  exact bodyPost_ret (v := .tuple #[.agg #[.int .i64 0, .int .i64 0, .slice none 0 0], .agg #[.int .i64 0, .int .i64 0, .int .i64 0, .int .i64 0, .bool false, .bool false], .int .i64 13]) (by simp [results, Try.results13, go_sem, r0, r1, r2, q0, q1, q2, q3, q4, q5]) rfl ⟨_, rfl, ownP_nil _ _, below_gr (below_gr HB1.out (gr_set (gr_set (gr_set (grown_reflp _ _) 0 _) 1 _) 2 _) HB1.out.size (Nat.le_succ _)) (gr_set (gr_set (gr_set (gr_set (gr_set (gr_set (grown_reflp _ _) 0 _) 1 _) 2 _) 3 _) 4 _) 5 _) (by simp; exact HB1.out.size) (by omega)⟩

set_option maxHeartbeats 8000000 in
theorem implAgain_yes {u x : Int} {os : List PieceM} (t : Int) (hok : bOK u x os) (ht : 0 ≤ t ∧ t ≤ 1000000000) (A0 B0 : List PieceM) (q : PieceM) (hos : os = A0 ++ q :: B0) (hq5 : q.f5 = true) (hA0 : ∀ o ∈ A0, o.f5 = false) : BoardAgainP 13 (fun _ => True) u x os t u x (A0 ++ againP t q :: B0) q.f0 q.f1 t (min (q.f3 + 1) 1000000) q.f4 false 0 := by
  intro a n cap w hn ha hc hm _
  obtain ⟨hb2, hX, hR, hQ⟩ := three_boxes w #[.int .i64 u, .int .i64 x, .slice a n cap] #[.int .i64 0, .int .i64 0, .slice none 0 0] #[.int .i64 0, .int .i64 0, .int .i64 0, .int .i64 0, .bool false, .bool false] 28 28 36
  have HB2 := hide hb2; have HX := hide hX; have HR := hide hR; have HQ := hide hQ
  have k0 := hX.cell 0 _ rfl; have k1 := hX.cell 1 _ rfl; have k2 := hX.cell 2 _ rfl
  have hV : w.heap.size + 2 < (((w.alloc (.cells #[.int .i64 u, .int .i64 x, .slice a n cap] 28)).alloc (.cells #[.int .i64 0, .int .i64 0, .slice none 0 0] 28)).alloc (.cells #[.int .i64 0, .int .i64 0, .int .i64 0, .int .i64 0, .bool false, .bool false] 36)).heap.size := hQ.lt
  have HN := hide hn
  have HA := hide (ha.below hb2 (Nat.le_refl _))
  have CV := hide (newPieceList_yes u x a n cap os (((w.alloc (.cells #[.int .i64 u, .int .i64 x, .slice a n cap] 28)).alloc (.cells #[.int .i64 0, .int .i64 0, .slice none 0 0] 28)).alloc (.cells #[.int .i64 0, .int .i64 0, .int .i64 0, .int .i64 0, .bool false, .bool false] 36)) hn (ha.below hb2 (Nat.le_refl _)) hm hok)
  have HOK := hide hok
  have HTI := hide (fun W => isTime_walk t W)
  rw [inB_iff.2 ht] at HTI
  have HOS := hide hos; have HQ5 := hide hq5; have HA0 := hide hA0
  have HQ3 : Hid (1 ≤ q.f3 ∧ q.f3 ≤ 1000000) := hide (chk_mem _ _ _ hok.2.2.2 q (by rw [hos]; simp)).2.2.2.2.1
  have HLL : Hid (os.length ≤ 4096) := hide hok.2.2.1
  clear ht hos hq5 hA0
  clear hn ha hok hb2 hX hR hQ HA
  go_enter Try.func13, Try.ntmps13
  go_wp2_with fail
  generalize ((w.alloc (.cells #[.int .i64 u, .int .i64 x, .slice a n cap] 28)).alloc (.cells #[.int .i64 0, .int .i64 0, .slice none 0 0] 28)).alloc (.cells #[.int .i64 0, .int .i64 0, .int .i64 0, .int .i64 0, .bool false, .bool false] 36) = V at *
  refine CV.out.mono ?_
  rintro e w1 ⟨L, ns, rfl, hD, hM, hw1⟩
  obtain ⟨xs, zs, hns, hm1, hm2⟩ := map_split ns A0 (q :: B0) (hM.trans HOS.out)
  obtain ⟨c, zq, ys, rfl⟩ : ∃ c zq ys, zs = (c, zq) :: ys := by
    cases zs with
    | nil => simp at hm2
    | cons z ys => exact ⟨z.1, z.2, ys, rfl⟩
  have hzq : zq = q := by simpa using (List.cons.inj hm2).1
  subst hzq
  have hys : ys.map Prod.snd = B0 := (List.cons.inj hm2).2
  have CF := hide (firstLost_walk _ L u x ns xs ((c, zq) :: ys) (some c) w1 hD hns (fun p hp => HA0.out p.2 (by rw [← hm1]; exact List.mem_map_of_mem hp)) (.inr ⟨c, zq, ys, rfl, rfl, HQ5.out⟩))
  rw [show ptO (some c) = Value.pointer (some ⟨c, 0, none⟩) from rfl] at CF
  have hD' : DL w1 V.heap.size L u x (xs ++ (c, zq) :: ys) := by rw [← hns]; exact hD
  have HD1 := hide hD'
  have hcV : V.heap.size ≤ c := hD'.lo c (by simp [bks])
  have CM := hide (markAgain_walk c zq _ _ t w1 hD'.at HQ3.out.1 HQ3.out.2)
  have HM1 := hide hm1; have HM2 := hide hys
  have HNL : Hid ((xs ++ (c, againP t zq) :: ys).length ≤ 1048576) := hide (by have h1 := congrArg List.length hM; rw [hns, List.length_map] at h1; have h2 := HLL.out; simp at h1 ⊢; omega)
  have HR1 := hide (HR.out.next hw1); have HQ1 := hide (HQ.out.next hw1)
  have HB1 : Hid (Below w.heap.size w w1) := hide (HB2.out.trans (hw1.mono HB2.out.size))
  have hV1 := hw1.size
  clear hw1 CV k0 k1 k2 HB2 HX HR HQ hD hD' hM hns hm1 hm2 hys
  go_wp2_with (first | (go_at_call 27; with_reducible refine (HTI.out _).mono ?_; rintro e w2 ⟨rfl, rfl⟩) | (go_at_call 28; with_reducible refine CF.out.mono ?_; rintro e w2 ⟨rfl, rfl⟩))
  refine CM.out.mono ?_
  rintro e w3 ⟨rfl, hc3, hg3⟩
  have HD3 := hide (HD1.out.put (againP t zq) hc3 (fun k hk hlt => hg3.block k hlt (fun e => hk (Option.some.inj e))))
  have HR3 := hide (hv_gr HR1.out hg3 (by omega)); have HQ3' := hide (hv_gr HQ1.out hg3 (by omega))
  have HB3 := hide (below_gr HB1.out hg3 HB1.out.size (by omega))
  have hV3 := hg3.size
  clear hc3 hg3 CM HD1 HR1 HQ1 HB1 CF
  obtain ⟨x0, x1, x2, x3, x4, x5⟩ := zq
  have CB := hide (board_walk _ L u x (xs ++ (c, againP t ⟨x0, x1, x2, x3, x4, x5⟩) :: ys) w3.drew HD3.out.drew HNL.out)
  have c0 : w3.cell? ⟨c, 0, none⟩ = some (.int .i64 x0) := HD3.out.at.cell 0 _ rfl
  have c1 : w3.cell? ⟨c, 1, none⟩ = some (.int .i64 x1) := HD3.out.at.cell 1 _ rfl
  have c2 : w3.cell? ⟨c, 2, none⟩ = some (.int .i64 t) := HD3.out.at.cell 2 _ rfl
  have c3 : w3.cell? ⟨c, 3, none⟩ = some (.int .i64 (min (x3 + 1) 1000000)) := HD3.out.at.cell 3 _ rfl
  have c4 : w3.cell? ⟨c, 4, none⟩ = some (.bool x4) := HD3.out.at.cell 4 _ rfl
  have c5 : w3.cell? ⟨c, 5, none⟩ = some (.bool false) := HD3.out.at.cell 5 _ rfl
  obtain ⟨mn, hmn⟩ : ∃ mn, mn = min (x3 + 1) 1000000 := ⟨_, rfl⟩
  rw [← hmn] at c3
  have HMN := hide hmn
  clear hmn
  obtain ⟨ln, hln⟩ : ∃ ln, ln = ((xs ++ (c, againP t ⟨x0, x1, x2, x3, x4, x5⟩) :: ys).map Prod.snd).length := ⟨_, rfl⟩
  have HLEN := hide hln
  have HLST : Hid ((xs ++ (c, againP t ⟨x0, x1, x2, x3, x4, x5⟩) :: ys).map Prod.snd = A0 ++ againP t ⟨x0, x1, x2, x3, x4, x5⟩ :: B0) := hide (by rw [List.map_append, List.map_cons, HM1.out, HM2.out])
  clear hln
  have hne1 : c ≠ w.heap.size + 1 := by omega
  have hne2 : c ≠ w.heap.size + 2 := by omega
  go_upto_region 8 with fail
  go_region_with (go_at_call 21; go_loud (refine CB.out.mono ?_; rintro e w4 ⟨v, rfl, hO, hw4⟩; obtain ⟨bz, nz, hv, _⟩ := arrP_own hO; rw [← HLEN.out] at hv; subst hv; have HR4 := hide (HR3.out.next (below_drew hw4)); have HQ4 := hide (HQ3'.out.next (below_drew hw4)); have HC4 := HD3.out.at.next (below_drew hw4); have d0 : w4.cell? ⟨c, 0, none⟩ = some (.int .i64 x0) := HC4.cell 0 _ rfl; have d1 : w4.cell? ⟨c, 1, none⟩ = some (.int .i64 x1) := HC4.cell 1 _ rfl; have d2 : w4.cell? ⟨c, 2, none⟩ = some (.int .i64 t) := HC4.cell 2 _ rfl; have d3 : w4.cell? ⟨c, 3, none⟩ = some (.int .i64 mn) := (show w4.cell? ⟨c, 3, none⟩ = some (.int .i64 (min (x3 + 1) 1000000)) from HC4.cell 3 _ rfl).trans (by rw [HMN.out]); have d4 : w4.cell? ⟨c, 4, none⟩ = some (.bool x4) := HC4.cell 4 _ rfl; have d5 : w4.cell? ⟨c, 5, none⟩ = some (.bool false) := HC4.cell 5 _ rfl; have r0 := HR4.out.cell 0 _ rfl; have r1 := HR4.out.cell 1 _ rfl; have r2 := HR4.out.cell 2 _ rfl; have rf := HR4.out.frozen; have q0 := HQ4.out.cell 0 _ rfl; have q1 := HQ4.out.cell 1 _ rfl; have q2 := HQ4.out.cell 2 _ rfl; have q3 := HQ4.out.cell 3 _ rfl; have q4 := HQ4.out.cell 4 _ rfl; have q5 := HQ4.out.cell 5 _ rfl; have qf := HQ4.out.frozen))
  all_goals
    have HO4 := hide (ownP_mono hO (C := w.heap.size + 3) (by have := hV3; show w.heap.size + 3 ≤ w3.heap.size; omega))
    have HB4 : Hid (Below w.heap.size w w4) := hide (HB3.out.trans ((below_drew hw4).mono HB3.out.size))
    clear hO hw4 HC4
    go_wp2_with fail
    exact bodyPost_ret (v := .tuple #[.agg #[.int .i64 u, .int .i64 x, .slice bz ln nz], .agg #[.int .i64 x0, .int .i64 x1, .int .i64 t, .int .i64 mn, .bool x4, .bool false], .int .i64 0]) (by simp [results, Try.results13, go_sem, r0, r1, r2, q0, q1, q2, q3, q4, q5]) rfl ⟨_, by rw [HMN.out], by rw [← HLST.out]; exact ownP_mono (ownP_gr (ownP_gr HO4.out (gr_set (gr_set (gr_set (grown_reflp _ _) 0 _) 1 _) 2 _) (by omega)) (g := w.heap.size + 2) (gr_set (gr_set (gr_set (gr_set (gr_set (gr_set (grown_reflp _ _) 0 _) 1 _) 2 _) 3 _) 4 _) 5 _) (by omega)) (by omega), below_gr (below_gr HB4.out (gr_set (gr_set (gr_set (grown_reflp _ _) 0 _) 1 _) 2 _) HB4.out.size (Nat.le_succ _)) (Y := w.heap.size + 2) (gr_set (gr_set (gr_set (gr_set (gr_set (gr_set (grown_reflp _ _) 0 _) 1 _) 2 _) 3 _) 4 _) 5 _) (by simp; exact HB4.out.size) (by omega)⟩
end Go.Proofs.Ytfffkgladjphoaa
