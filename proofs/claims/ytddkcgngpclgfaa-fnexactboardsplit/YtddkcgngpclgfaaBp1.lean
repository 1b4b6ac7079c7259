/-
Contracts of functions of this seat.
-/
import Derived.Test.YtddkcgngpclgfaaRows
import Derived.WalkKit
import Derived.ProofKit
import Derived.OpenShut
import Derived.Test.YtddkcgngpclgfaaBp0
namespace Go.Proofs.Ytddkcgngpclgfaa
open Go.ChangeShapes Go.WideShapes Go.ChangeAt Go.RowKit
set_option linter.unusedVariables false
set_option maxRecDepth 100000
set_option maxHeartbeats 8000000 in
theorem countOf_walk (B L : Nat) (u x k : Int) (ns : List (Nat × PieceM)) (w : World) (h : DL w B L u x ns) (hok : bOK u x (ns.map Prod.snd)) (hk : 1 ≤ k ∧ k ≤ 65535) :
    Calls Try.prog 53 #[.pointer (some ⟨L, 0, none⟩), .int .i64 k] w fun e w' => e = .returned (.int .i64 (cntS k (ns.map Prod.snd))) ∧ Below w.heap.size w w' := by
  obtain ⟨k1, k2⟩ := hk
  have HD := hide h; have HOK := hide hok
  have l3 := h.head.cell 3 _ rfl
  have hk0 : k ≠ 0 := by omega
  have hkb : (k == 0) = false := beq_eq_false_iff_ne.2 hk0
  clear h hok
  go_enter Try.func53, Try.ntmps53
  go_wp2_with fail
  clear l3
  go_loopw [5, 6] (fun s t w2 => ∃ xs ys : List (Nat × PieceM), Hid (ns = xs ++ ys) ∧ t = ptO (fstO ys none) ∧ s = .int .i64 (cntS k (xs.map Prod.snd)) ∧ Below w.heap.size w w2) (fun _ t _ => posOf (bks ns) t)
  case atStart => exact ⟨[], ns, hide rfl, rfl, rfl, Below.refl _ _⟩
  case round =>
    obtain ⟨xs, ys, HXY, rfl, rfl, hb⟩ := hrel
    cases ys with
    | nil =>
      have HF : Hid (cntS k (ns.map Prod.snd) = cntS k (xs.map Prod.snd)) := hide (by rw [HXY.out, List.append_nil])
      generalize cntS k (xs.map Prod.snd) = s at *
      simp only [show ptO (fstO ([] : List (Nat × PieceM)) none) = Value.pointer none from rfl]
      go_wp2_with fail
      go_ret
      exact ⟨ret_int HF.out.symm, hb⟩
    | cons p ys =>
      obtain ⟨c, q⟩ := p
      have HLN := hide (HD.out.nd)
      have HC := hide (show HoldV wr c (lpV q (lstO none xs) (fstO ys none)) lpT from by have h := HD.out; rw [HXY.out] at h; exact h.at.next hb)
      have HP1 : Hid (posOf (bks ns) (.pointer (some ⟨c, 0, none⟩)) = ys.length + 1) := hide (by rw [HXY.out]; exact pos_at (ys := (c, q) :: ys) (by rw [← HXY.out]; exact HLN.out))
      have HXY2 : Hid (ns = (xs ++ [(c, q)]) ++ ys) := hide (by rw [HXY.out]; simp)
      have HP2 : Hid (posOf (bks ns) (ptO (fstO ys none)) = ys.length) := hide (by rw [HXY2.out]; exact pos_at (by rw [← HXY2.out]; exact HLN.out))
      have HS2 : Hid (cntS k ((xs ++ [(c, q)]).map Prod.snd) = cntS k (xs.map Prod.snd) + (q.f1 - q.f0 + k - 1) / k) := hide (by rw [List.map_append, cntS_app]; simp [cntS])
      obtain ⟨s0, s1⟩ : 0 ≤ cntS k (xs.map Prod.snd) ∧ cntS k (xs.map Prod.snd) ≤ 1099511627776 := by
        have h := HOK.out
        rw [HXY.out, List.map_append] at h
        obtain ⟨m, h1, h2⟩ := chk_app _ _ _ _ h.2.2.2
        have h3 := cnt_le k1 _ _ _ h1
        have h4 := chk_le _ _ _ h2
        have := h.1; have := h.2.1
        omega
      obtain ⟨q0, q1, q2⟩ : 0 ≤ q.f0 ∧ q.f0 < q.f1 ∧ q.f1 ≤ 1099511627776 := bOK_piece HOK.out (by rw [HXY.out]; simp)
      have e0 : 0 ≤ (q.f1 - q.f0 + k - 1) / k := Int.ediv_nonneg (by omega) (by omega)
      have e1 : (q.f1 - q.f0 + k - 1) / k ≤ 1099511693312 := by
        have := Int.ediv_le_self (a := q.f1 - q.f0 + k - 1) k (show 0 ≤ q.f1 - q.f0 + k - 1 by omega)
        omega
      generalize cntS k (xs.map Prod.snd) = s at *
      simp only [show ptO (fstO ((c, q) :: ys) none) = Value.pointer (some ⟨c, 0, none⟩) from rfl]
      obtain ⟨x0, x1, x2, x3, x4, x5⟩ := q
      try dsimp only at q0 q1 q2 HS2 e0 e1
      have c0 := HC.out.cell 0 _ rfl; have c1 := HC.out.cell 1 _ rfl; have c2 := HC.out.cell 2 _ rfl; have c3 := HC.out.cell 3 _ rfl; have c4 := HC.out.cell 4 _ rfl; have c5 := HC.out.cell 5 _ rfl
      try dsimp only at c0 c1 c2 c3 c4 c5
      have CZ := hide (size_walk x0 x1 x2 x3 x4 x5 wr q0 q1 q2)
      have hnn : 0 ≤ x1 - x0 + k - 1 := by omega
      have HTD : Hid ((x1 - x0 + k - 1).tdiv k = (x1 - x0 + k - 1) / k) := hide (Int.tdiv_eq_ediv_of_nonneg hnn)
      go_wp2_with (go_at_call 50; refine CZ.out.mono ?_; rintro e w4 ⟨rfl, hb4⟩; have hbc : Below w.heap.size w w4 := hb.trans (hb4.mono hb.size); have c7' := (HC.out.next hb4).cell 7 _ rfl; clear hb4)
      exact ⟨⟨xs ++ [(c, PieceM.mk x0 x1 x2 x3 x4 x5)], ys, HXY2, rfl, by rw [HS2.out], hbc⟩, by rw [HP1.out, HP2.out]; omega⟩
set_option maxHeartbeats 8000000 in
theorem cut_walk (B L c : Nat) (u x k : Int) (xs ys : List (Nat × PieceM)) (q : PieceM) (w : World) (h : DL w B L u x (xs ++ (c, q) :: ys)) (hB : B ≤ w.heap.size) (hl : (xs ++ (c, q) :: ys).length ≤ 1048575) (q0 : 0 ≤ q.f0) (q2 : q.f0 + k ≤ 1099511627776) (hk : 1 ≤ k ∧ k ≤ 65535) :
    Calls Try.prog 54 #[.pointer (some ⟨L, 0, none⟩), .pointer (some ⟨c, 0, none⟩), .int .i64 k] w fun e w' => ∃ N, e = .returned (.tuple #[]) ∧ DL w' B L u x (xs ++ (c, ⟨q.f0, q.f0 + k, q.f2, q.f3, q.f4, q.f5⟩) :: (N, ⟨q.f0 + k, q.f1, q.f2, q.f3, q.f4, q.f5⟩) :: ys) ∧ Below B w w' := by
  obtain ⟨k1, k2⟩ := hk
  obtain ⟨x0, x1, x2, x3, x4, x5⟩ := q
  have q0' : 0 ≤ x0 := q0
  have q2' : x0 + k ≤ 1099511627776 := q2
  have hC := h.at
  have hcl := hC.lt
  have hcB : B ≤ c := h.lo c (by simp [bks])
  have c0 : w.cell? ⟨c, 0, none⟩ = some (.int .i64 x0) := hC.cell 0 _ rfl
  have c1 : w.cell? ⟨c, 1, none⟩ = some (.int .i64 x1) := hC.cell 1 _ rfl
  have c2 : w.cell? ⟨c, 2, none⟩ = some (.int .i64 x2) := hC.cell 2 _ rfl
  have c3 : w.cell? ⟨c, 3, none⟩ = some (.int .i64 x3) := hC.cell 3 _ rfl
  have c4 : w.cell? ⟨c, 4, none⟩ = some (.bool x4) := hC.cell 4 _ rfl
  have c5 : w.cell? ⟨c, 5, none⟩ = some (.bool x5) := hC.cell 5 _ rfl
  have cf := hC.frozen
  have hDa := h.put (⟨x0, x0 + k, x2, x3, x4, x5⟩ : PieceM) (hv_set hC 1 (.int .i64 (x0 + k))) (fun b hb _ => heap_setCell_other _ ⟨c, 1, none⟩ b _ hb)
  have hal := (Below.refl (w.setCell ⟨c, 1, none⟩ (.int .i64 (x0 + k))).heap.size (w.setCell ⟨c, 1, none⟩ (.int .i64 (x0 + k)))).alloc (Nat.le_refl _) (.cells #[.int .i64 (x0 + k), .int .i64 x1, .int .i64 x2, .int .i64 x3, .bool x4, .bool x5] 45)
  have HD1 := hide (hDa.next hal)
  have HP : Hid (HoldV ((w.setCell ⟨c, 1, none⟩ (.int .i64 (x0 + k))).alloc (.cells #[.int .i64 (x0 + k), .int .i64 x1, .int .i64 x2, .int .i64 x3, .bool x4, .bool x5] 45)) w.heap.size #[.int .i64 (x0 + k), .int .i64 x1, .int .i64 x2, .int .i64 x3, .bool x4, .bool x5] 45) := hide (by have := hv_new (w.setCell ⟨c, 1, none⟩ (.int .i64 (x0 + k))) #[.int .i64 (x0 + k), .int .i64 x1, .int .i64 x2, .int .i64 x3, .bool x4, .bool x5] 45; rw [World.size_setCell] at this; exact this)
  have HB1 := hide (((Below.refl B w).setCell (p := ⟨c, 1, none⟩) (by show B ≤ c; exact hcB) (.int .i64 (x0 + k))).alloc (by rw [World.size_setCell]; exact hB) (.cells #[.int .i64 (x0 + k), .int .i64 x1, .int .i64 x2, .int .i64 x3, .bool x4, .bool x5] 45))
  have hsz : ((w.setCell ⟨c, 1, none⟩ (.int .i64 (x0 + k))).alloc (.cells #[.int .i64 (x0 + k), .int .i64 x1, .int .i64 x2, .int .i64 x3, .bool x4, .bool x5] 45)).heap.size = w.heap.size + 1 := by rw [World.size_alloc, World.size_setCell]
  have hne : w.heap.size ≠ c := by omega
  have hne2 : c ≠ w.heap.size := by omega
  clear h hC q0 q2 hal hDa
  go_enter Try.func54, Try.ntmps54
  go_upto_region 3 with fail
  clear c0 c1 c2 c3 c4 c5 cf
  generalize (w.setCell ⟨c, 1, none⟩ (.int .i64 (x0 + k))).alloc (.cells #[.int .i64 (x0 + k), .int .i64 x1, .int .i64 x2, .int .i64 x3, .bool x4, .bool x5] 45) = W at *
  have CP := hide (put_walk B L u x (xs ++ [(c, (⟨x0, x0 + k, x2, x3, x4, x5⟩ : PieceM))]) ys ⟨x0 + k, x1, x2, x3, x4, x5⟩ W.drew (by rw [List.append_assoc]; exact HD1.out.drew) (by show B ≤ W.heap.size; omega) (by simp at hl ⊢; omega))
  rw [lstO_snoc, show ptO (some c) = Value.pointer (some ⟨c, 0, none⟩) from rfl] at CP
  have b0 : W.drew.cell? ⟨w.heap.size, 0, none⟩ = some (.int .i64 (x0 + k)) := HP.out.cell 0 _ rfl
  have b1 : W.drew.cell? ⟨w.heap.size, 1, none⟩ = some (.int .i64 x1) := HP.out.cell 1 _ rfl
  have b2 : W.drew.cell? ⟨w.heap.size, 2, none⟩ = some (.int .i64 x2) := HP.out.cell 2 _ rfl
  have b3 : W.drew.cell? ⟨w.heap.size, 3, none⟩ = some (.int .i64 x3) := HP.out.cell 3 _ rfl
  have b4 : W.drew.cell? ⟨w.heap.size, 4, none⟩ = some (.bool x4) := HP.out.cell 4 _ rfl
  have b5 : W.drew.cell? ⟨w.heap.size, 5, none⟩ = some (.bool x5) := HP.out.cell 5 _ rfl
  have c7 : W.drew.cell? ⟨c, 7, none⟩ = some (ptO (fstO ys none)) := HD1.out.at.cell 7 _ rfl
  refine region_tail 7 (by kernel_rfl) (by kernel_rfl) ?_
  obtain ⟨V, hVe⟩ : ∃ V, V = W.drew := ⟨_, rfl⟩
  have HBV : Hid (∀ W', Below B V W' → Below B w W') := hide (fun W' hW => HB1.out.trans (below_drew (by rw [← hVe]; exact hW)))
  rw [← hVe] at CP b0 b1 b2 b3 b4 b5 c7 ⊢
  clear hVe
  simp only [List.take_succ_cons, List.take_zero, List.drop_succ_cons, List.drop_zero]
  repeat (first | go_big_quiet_skip | (go_big_quiet_want; go_big_quiet_op; go_big_quiet_on))
  refine wpQuiet_nil ?_
  clear b0 b1 b2 b3 b4 b5 c7
  go_wp2_with (go_at_call 48; refine CP.out.mono ?_; rintro e w3 ⟨rfl, hD3, hb3, hs3⟩)
  go_end0
  rw [List.append_assoc] at hD3
  exact ⟨_, rfl, hD3, HBV.out _ hb3⟩
end Go.Proofs.Ytddkcgngpclgfaa
