/-
Contracts of functions of this seat.
-/
import Derived.Test.YtddkcgngpclgfaaRows
import Derived.WalkKit
import Derived.ProofKit
import Derived.OpenShut
import Derived.Test.YtddkcgngpclgfaaBl7
namespace Go.Proofs.Ytddkcgngpclgfaa
open Go.ChangeShapes Go.WideShapes Go.ChangeAt Go.RowKit
set_option linter.unusedVariables false
set_option maxRecDepth 100000
/-- How much is on the way. -/
def pipeS : List PieceM → Int
  | [] => 0
  | o :: r => (if o.f4 = false ∧ o.f5 = false then o.f1 - o.f0 else 0) + pipeS r
theorem pipeS_app : ∀ (a b : List PieceM), pipeS (a ++ b) = pipeS a + pipeS b
  | [], b => by simp [pipeS]
  | o :: a, b => by show _ + pipeS (a ++ b) = _ + pipeS a + pipeS b; rw [pipeS_app a b]; omega
theorem chk_app : ∀ (a b : List PieceM) (u x : Int), chk u (a ++ b) = some x → ∃ m, chk u a = some m ∧ chk m b = some x
  | [], b, u, x, h => ⟨u, rfl, h⟩
  | o :: a, b, u, x, h => by
    rw [List.cons_append] at h
    by_cases hh : o.f0 = u ∧ vp o
    · rw [chk_cons hh.1 hh.2] at h
      obtain ⟨m, h1, h2⟩ := chk_app a b _ _ h
      exact ⟨m, by rw [chk_cons hh.1 hh.2]; exact h1, h2⟩
    · rw [chk_ill hh] at h; cases h
theorem pipe_le : ∀ (a : List PieceM) (u m : Int), chk u a = some m → 0 ≤ pipeS a ∧ pipeS a ≤ m - u
  | [], u, m, h => by cases h; simp [pipeS]
  | o :: a, u, m, h => by
    by_cases hh : o.f0 = u ∧ vp o
    · rw [chk_cons hh.1 hh.2] at h
      have h1 := pipe_le a _ _ h
      have h2 := hh.2.1
      unfold pipeS
      split <;> omega
    · rw [chk_ill hh] at h; cases h
/-- A part of a valid board: its sum's bounds, and those of a piece in it. -/
theorem bOK_parts {u x : Int} {a b : List PieceM} (h : bOK u x (a ++ b)) : 0 ≤ pipeS a ∧ pipeS a ≤ 1099511627776 := by
  obtain ⟨m, h1, h2⟩ := chk_app a b _ _ h.2.2.2
  have h3 := pipe_le _ _ _ h1
  have h4 := chk_le _ _ _ h2
  have := h.1; have := h.2.1
  omega
theorem bOK_piece {u x : Int} {os : List PieceM} (h : bOK u x os) {o : PieceM} (ho : o ∈ os) : 0 ≤ o.f0 ∧ o.f0 < o.f1 ∧ o.f1 ≤ 1099511627776 := by
  have h1 := chk_mem _ _ _ h.2.2.2 o ho
  have := h.1; have := h.2.1; have := h1.2.2.1
  omega
theorem pc_box (w : World) (x0 x1 x2 x3 : Int) (x4 x5 : Bool) : HoldV (w.alloc (.cells #[.int .i64 x0, .int .i64 x1, .int .i64 x2, .int .i64 x3, .bool x4, .bool x5] 45)) w.heap.size #[.int .i64 x0, .int .i64 x1, .int .i64 x2, .int .i64 x3, .bool x4, .bool x5] 45 := heap_alloc_new _ _
theorem size_walk (x0 x1 x2 x3 : Int) (x4 x5 : Bool) (w : World) (h0 : 0 ≤ x0) (h1 : x0 < x1) (h2 : x1 ≤ 1099511627776) : Calls Try.prog 50 #[.agg #[.int .i64 x0, .int .i64 x1, .int .i64 x2, .int .i64 x3, .bool x4, .bool x5]] w fun e w' => e = .returned (.int .i64 (x1 - x0)) ∧ Below w.heap.size w w' := by
  have HB := hide (pc_box w x0 x1 x2 x3 x4 x5)
  have HW := hide ((Below.refl w.heap.size w).alloc (Nat.le_refl _) (.cells #[.int .i64 x0, .int .i64 x1, .int .i64 x2, .int .i64 x3, .bool x4, .bool x5] 45))
  have k0 := HB.out.cell 0 _ rfl; have k1 := HB.out.cell 1 _ rfl
  go_enter Try.func50, Try.ntmps50
  go_wp2_with fail
  go_ret
  exact ⟨rfl, HW.out⟩
theorem onWay_walk (x0 x1 x2 x3 : Int) (x4 x5 : Bool) (w : World) : Calls Try.prog 49 #[.agg #[.int .i64 x0, .int .i64 x1, .int .i64 x2, .int .i64 x3, .bool x4, .bool x5]] w fun e w' => e = .returned (.bool (!x4 && !x5)) ∧ Below w.heap.size w w' := by
  have HB := hide (pc_box w x0 x1 x2 x3 x4 x5)
  have HW := hide ((Below.refl w.heap.size w).alloc (Nat.le_refl _) (.cells #[.int .i64 x0, .int .i64 x1, .int .i64 x2, .int .i64 x3, .bool x4, .bool x5] 45))
  have k4 := HB.out.cell 4 _ rfl; have k5 := HB.out.cell 5 _ rfl
  cases x4 <;> cases x5 <;>
  (go_enter Try.func49, Try.ntmps49
   go_wp2_with fail
   go_ret
   exact ⟨rfl, HW.out⟩)
set_option maxHeartbeats 8000000 in
theorem onTheWay_walk (B L : Nat) (u x : Int) (ns : List (Nat × PieceM)) (w : World) (h : DL w B L u x ns) (hok : bOK u x (ns.map Prod.snd)) :
    Calls Try.prog 30 #[.pointer (some ⟨L, 0, none⟩)] w fun e w' => e = .returned (.int .i64 (pipeS (ns.map Prod.snd))) ∧ Below w.heap.size w w' := by
  have HD := hide h; have HOK := hide hok
  have l3 := h.head.cell 3 _ rfl
  clear h hok
  go_enter Try.func30, Try.ntmps30
  go_wp2_with fail
  clear l3
  go_loopw [3, 4] (fun s t w2 => ∃ xs ys : List (Nat × PieceM), Hid (ns = xs ++ ys) ∧ t = ptO (fstO ys none) ∧ s = .int .i64 (pipeS (xs.map Prod.snd)) ∧ Below w.heap.size w w2) (fun _ t _ => posOf (bks ns) t)
  case atStart => exact ⟨[], ns, hide rfl, rfl, rfl, Below.refl _ _⟩
  case round =>
    obtain ⟨xs, ys, HXY, rfl, rfl, hb⟩ := hrel
    cases ys with
    | nil =>
      have HF : Hid (pipeS (ns.map Prod.snd) = pipeS (xs.map Prod.snd)) := hide (by rw [HXY.out, List.append_nil])
      generalize pipeS (xs.map Prod.snd) = s at *
      simp only [show ptO (fstO ([] : List (Nat × PieceM)) none) = Value.pointer none from rfl]
      go_wp2_with fail
      go_ret
      exact ⟨ret_int HF.out.symm, hb⟩
    | cons p ys =>
      obtain ⟨c, q⟩ := p
      have HLN := hide (HD.out.nd)
      have HC := hide (show HoldV wr c (lpV q (lstO none xs) (fstO ys none)) lpT from by have h := HD.out; rw [HXY.out] at h; exact h.at.next hb)
      have HP1 : Hid (posOf (bks ns) (.pointer (some ⟨c, 0, none⟩)) = ys.length + 1) := hide (by rw [HXY.out]; exact pos_at (ys := (c, q) :: ys) (by rw [← HXY.out]; exact HLN.out))
      have HXY2 : Hid (ns = (xs ++ [(c, q)]) ++ ys) := hide (by rw [HXY.out]; simp)
      have HP2 : Hid (posOf (bks ns) (ptO (fstO ys none)) = ys.length) := hide (by rw [HXY2.out]; exact pos_at (by rw [← HXY2.out]; exact HLN.out))
      have HS2 : Hid (pipeS ((xs ++ [(c, q)]).map Prod.snd) = pipeS (xs.map Prod.snd) + (if q.f4 = false ∧ q.f5 = false then q.f1 - q.f0 else 0)) := hide (by rw [List.map_append, pipeS_app]; simp [pipeS])
      obtain ⟨s0, s1⟩ : 0 ≤ pipeS (xs.map Prod.snd) ∧ pipeS (xs.map Prod.snd) ≤ 1099511627776 := bOK_parts (b := (((c, q) :: ys).map Prod.snd)) (by have h := HOK.out; rw [HXY.out, List.map_append] at h; exact h)
      obtain ⟨q0, q1, q2⟩ : 0 ≤ q.f0 ∧ q.f0 < q.f1 ∧ q.f1 ≤ 1099511627776 := bOK_piece HOK.out (by rw [HXY.out]; simp)
      generalize pipeS (xs.map Prod.snd) = s at *
      simp only [show ptO (fstO ((c, q) :: ys) none) = Value.pointer (some ⟨c, 0, none⟩) from rfl]
      obtain ⟨x0, x1, x2, x3, x4, x5⟩ := q
      try dsimp only at q0 q1 q2 HS2
      have c0 := HC.out.cell 0 _ rfl; have c1 := HC.out.cell 1 _ rfl; have c2 := HC.out.cell 2 _ rfl; have c3 := HC.out.cell 3 _ rfl; have c4 := HC.out.cell 4 _ rfl; have c5 := HC.out.cell 5 _ rfl
      try dsimp only at c0 c1 c2 c3 c4 c5
      have CW := hide (onWay_walk x0 x1 x2 x3 x4 x5 wr)
      go_wp2_with fail
      refine CW.out.mono ?_
      rintro e w3 ⟨rfl, hb3⟩
      have HC3 := hide (HC.out.next hb3)
      have hbb : Below w.heap.size w w3 := hb.trans (hb3.mono hb.size)
      clear hb3 HC CW c0 c1 c2 c3 c4 c5 hb
      have c0 := HC3.out.cell 0 _ rfl; have c1 := HC3.out.cell 1 _ rfl; have c2 := HC3.out.cell 2 _ rfl; have c3 := HC3.out.cell 3 _ rfl; have c4 := HC3.out.cell 4 _ rfl; have c5 := HC3.out.cell 5 _ rfl; have c7 := HC3.out.cell 7 _ rfl
      try dsimp only at c0 c1 c2 c3 c4 c5
      cases hw : (!x4 && !x5) with
      | false =>
        have HS3 : Hid (pipeS ((xs ++ [(c, PieceM.mk x0 x1 x2 x3 x4 x5)]).map Prod.snd) = s) := hide (by rw [HS2.out, if_neg (by cases x4 <;> cases x5 <;> simp_all)]; omega)
        go_wp2_with fail
        exact ⟨⟨xs ++ [(c, PieceM.mk x0 x1 x2 x3 x4 x5)], ys, HXY2, rfl, by rw [HS3.out], hbb⟩, by rw [HP1.out, HP2.out]; omega⟩
      | true =>
        have HS3 : Hid (pipeS ((xs ++ [(c, PieceM.mk x0 x1 x2 x3 x4 x5)]).map Prod.snd) = s + (x1 - x0)) := hide (by rw [HS2.out, if_pos (by cases x4 <;> cases x5 <;> simp_all)])
        have CZ := hide (size_walk x0 x1 x2 x3 x4 x5 w3 q0 q1 q2)
        go_wp2_with fail
        refine CZ.out.mono ?_
        rintro e w4 ⟨rfl, hb4⟩
        have hbc : Below w.heap.size w w4 := hbb.trans (hb4.mono hbb.size)
        have c7' := (HC3.out.next hb4).cell 7 _ rfl
        clear hb4 CZ c7 c0 c1 c2 c3 c4 c5 hbb
        go_wp2_with fail
        exact ⟨⟨xs ++ [(c, PieceM.mk x0 x1 x2 x3 x4 x5)], ys, HXY2, rfl, by rw [HS3.out], hbc⟩, by rw [HP1.out, HP2.out]; omega⟩
end Go.Proofs.Ytddkcgngpclgfaa
