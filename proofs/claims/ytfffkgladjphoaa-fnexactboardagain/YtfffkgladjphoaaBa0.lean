/-
Contracts of functions of this seat.
-/
import Derived.Test.YtfffkgladjphoaaRows
import Derived.WalkKit
import Derived.ProofKit
import Derived.OpenShut
import Derived.Test.YtfffkgladjphoaaBs0
import Derived.Lib.MinMax
namespace Go.Proofs.Ytfffkgladjphoaa
open Go.ChangeShapes Go.WideShapes Go.ChangeAt Go.RowKit
set_option linter.unusedVariables false
set_option maxRecDepth 100000
/-- A piece that is sent again. -/
def againP (t : Int) (o : PieceM) : PieceM := ⟨o.f0, o.f1, t, min (o.f3 + 1) 1000000, o.f4, false⟩
def againL (t : Int) : List PieceM → List PieceM
  | [] => []
  | o :: r => if o.f5 = true then againP t o :: r else o :: againL t r
def againQ (t : Int) : List PieceM → Option PieceM
  | [] => none
  | o :: r => if o.f5 = true then some (againP t o) else againQ t r
theorem again_split (t : Int) : ∀ (os : List PieceM), (againQ t os = none ∧ ∀ o ∈ os, o.f5 = false) ∨ ∃ a q b, os = a ++ q :: b ∧ q.f5 = true ∧ (∀ o ∈ a, o.f5 = false) ∧ againQ t os = some (againP t q) ∧ againL t os = a ++ againP t q :: b
  | [] => .inl ⟨rfl, fun o h => by cases h⟩
  | o :: r => by
    by_cases h : o.f5 = true
    · exact .inr ⟨[], o, r, rfl, h, fun _ h => (by cases h), by unfold againQ; rw [if_pos h], by unfold againL; rw [if_pos h]; rfl⟩
    · have h0 : o.f5 = false := by cases hh : o.f5 <;> simp_all
      have e1 : againQ t (o :: r) = againQ t r := by show (if _ then _ else _) = _; rw [if_neg h]
      have e2 : againL t (o :: r) = o :: againL t r := by show (if _ then _ else _) = _; rw [if_neg h]
      rcases again_split t r with ⟨h1, h2⟩ | ⟨a, q, b, h1, h2, h3, h4, h5⟩
      · refine .inl ⟨by rw [e1]; exact h1, fun p hp => ?_⟩
        rcases List.mem_cons.1 hp with rfl | hp
        · exact h0
        · exact h2 p hp
      · refine .inr ⟨o :: a, q, b, by rw [h1]; rfl, h2, fun p hp => ?_, by rw [e1]; exact h4, by rw [e2, h5]; rfl⟩
        rcases List.mem_cons.1 hp with rfl | hp
        · exact h0
        · exact h3 p hp
theorem three_boxes (w : World) (o1 o2 o3 : Array Value) (t1 t2 t3 : Nat) : Below w.heap.size w (((w.alloc (.cells o1 t1)).alloc (.cells o2 t2)).alloc (.cells o3 t3)) ∧ HoldV (((w.alloc (.cells o1 t1)).alloc (.cells o2 t2)).alloc (.cells o3 t3)) w.heap.size o1 t1 ∧ HoldV (((w.alloc (.cells o1 t1)).alloc (.cells o2 t2)).alloc (.cells o3 t3)) (w.heap.size + 1) o2 t2 ∧ HoldV (((w.alloc (.cells o1 t1)).alloc (.cells o2 t2)).alloc (.cells o3 t3)) (w.heap.size + 2) o3 t3 := by
  obtain ⟨h1, h2, h3⟩ := two_allocs w (.cells o1 t1) (.cells o2 t2)
  have hs : ((w.alloc (.cells o1 t1)).alloc (.cells o2 t2)).heap.size = w.heap.size + 2 := by rw [World.size_alloc, World.size_alloc]
  have hb : Below ((w.alloc (.cells o1 t1)).alloc (.cells o2 t2)).heap.size ((w.alloc (.cells o1 t1)).alloc (.cells o2 t2)) (((w.alloc (.cells o1 t1)).alloc (.cells o2 t2)).alloc (.cells o3 t3)) := (Below.refl _ _).alloc (Nat.le_refl _) _
  refine ⟨h1.trans (hb.mono (by omega)), (show HoldV _ _ _ _ from h2).next hb, (show HoldV _ _ _ _ from h3).next hb, ?_⟩
  have := hv_new ((w.alloc (.cells o1 t1)).alloc (.cells o2 t2)) o3 t3
  rw [hs] at this
  exact this
set_option maxHeartbeats 8000000 in
theorem lostFrom_walk (B L : Nat) (u x : Int) (ns xs zs : List (Nat × PieceM)) (p : Option Nat) (w : World) (h : DL w B L u x ns) (hns : ns = xs ++ zs) (hxs : ∀ q ∈ xs, q.2.f5 = false) (hz : (zs = [] ∧ p = none) ∨ ∃ c q ys, zs = (c, q) :: ys ∧ p = some c ∧ q.f5 = true) :
    Calls Try.prog 35 #[ptO (fstO ns none)] w fun e w' => e = .returned (ptO p) ∧ w' = w := by
  have HD := hide h; have HNS := hide hns; have HXS := hide hxs; have HZ := hide hz
  have HLN := hide h.nd
  clear h hns hxs hz
  go_enter Try.func35, Try.ntmps35
  go_wp2_with fail
  go_loopw [0] (fun t w2 => ∃ es bs : List (Nat × PieceM), Hid (xs = es ++ bs) ∧ t = ptO (fstO (bs ++ zs) none) ∧ w2 = w) (fun t _ => posOf (bks ns) t)
  case atStart => exact ⟨[], xs, hide rfl, by rw [HNS.out], rfl⟩
  case round =>
    obtain ⟨es, bs, HAB, rfl, rfl⟩ := hrel
    cases bs with
    | nil =>
      rw [List.nil_append]
      rcases HZ.out with ⟨h1, h2⟩ | ⟨c, q, ys, h1, h2, h3⟩
      · subst h1 h2
        clear HZ
        simp only [show ptO (fstO ([] : List (Nat × PieceM)) none) = Value.pointer none from rfl]
        go_wp2_with fail
        go_ret
        exact ⟨rfl, rfl⟩
      · subst h1 h2
        have hC : HoldV wr c (lpV q (lstO none xs) (fstO ys none)) lpT := DL.at (by have := HD.out; rw [HNS.out] at this; exact this)
        obtain ⟨x0, x1, x2, x3, x4, x5⟩ := q
        have h3' : x5 = true := h3
        subst h3'
        have c5 : wr.cell? ⟨c, 5, none⟩ = some (.bool true) := hC.cell 5 _ rfl
        clear hC h3 HZ
        simp only [show ∀ q : PieceM, ptO (fstO ((c, q) :: ys) none) = Value.pointer (some ⟨c, 0, none⟩) from fun _ => rfl]
        go_wp2_with fail
        go_ret
        exact ⟨rfl, rfl⟩
    | cons b bs =>
      obtain ⟨c, q⟩ := b
      have HE : Hid (ns = es ++ ((c, q) :: (bs ++ zs))) := hide (by rw [HNS.out, HAB.out]; simp)
      have HE2 : Hid (ns = (es ++ [(c, q)]) ++ (bs ++ zs)) := hide (by rw [HNS.out, HAB.out]; simp)
      have HAB2 : Hid (xs = (es ++ [(c, q)]) ++ bs) := hide (by rw [HAB.out]; simp)
      have HP1 : Hid (posOf (bks ns) (.pointer (some ⟨c, 0, none⟩)) = (bs ++ zs).length + 1) := hide (by rw [HE.out]; exact pos_at (ys := (c, q) :: (bs ++ zs)) (by rw [← HE.out]; exact HLN.out))
      have HP2 : Hid (posOf (bks ns) (ptO (fstO (bs ++ zs) none)) = (bs ++ zs).length) := hide (by rw [HE2.out]; exact pos_at (by rw [← HE2.out]; exact HLN.out))
      have hC : HoldV wr c (lpV q (lstO none es) (fstO (bs ++ zs) none)) lpT := DL.at (by have := HD.out; rw [HE.out] at this; exact this)
      have h5 : q.f5 = false := HXS.out (c, q) (by rw [HAB.out]; simp)
      obtain ⟨x0, x1, x2, x3, x4, x5⟩ := q
      have h5' : x5 = false := h5
      subst h5'
      have c5 : wr.cell? ⟨c, 5, none⟩ = some (.bool false) := hC.cell 5 _ rfl
      have c7 := hC.cell 7 _ rfl
      clear hC h5 HZ
      rw [List.cons_append]
      simp only [show ∀ (q : PieceM) (ys : List (Nat × PieceM)), ptO (fstO ((c, q) :: ys) none) = Value.pointer (some ⟨c, 0, none⟩) from fun _ _ => rfl]
      go_wp2_with fail
      exact ⟨⟨_, bs, HAB2, rfl, (by first | rfl | trivial)⟩, by rw [HP1.out, HP2.out]; omega⟩
set_option maxHeartbeats 1000000 in
theorem firstLost_walk (B L : Nat) (u x : Int) (ns xs zs : List (Nat × PieceM)) (p : Option Nat) (w : World) (h : DL w B L u x ns) (hns : ns = xs ++ zs) (hxs : ∀ q ∈ xs, q.2.f5 = false) (hz : (zs = [] ∧ p = none) ∨ ∃ c q ys, zs = (c, q) :: ys ∧ p = some c ∧ q.f5 = true) :
    Calls Try.prog 28 #[.pointer (some ⟨L, 0, none⟩)] w fun e w' => e = .returned (ptO p) ∧ w' = w := by
  have CF := hide (lostFrom_walk B L u x ns xs zs p w h hns hxs hz)
  have l3 := h.head.cell 3 _ rfl
  clear h hns hxs hz
  go_enter Try.func28, Try.ntmps28
  go_wp2_with fail
  refine CF.out.mono ?_
  rintro e w1 ⟨rfl, rfl⟩
  go_wp2_with fail
  go_ret
  exact ⟨rfl, rfl⟩
set_option maxHeartbeats 4000000 in
theorem markAgain_walk (c : Nat) (q : PieceM) (pv nx : Option Nat) (t : Int) (w : World) (h : HoldV w c (lpV q pv nx) lpT) (h0 : 1 ≤ q.f3) (h1 : q.f3 ≤ 1000000) :
    Calls Try.prog 29 #[.pointer (some ⟨c, 0, none⟩), .int .i64 t] w fun e w' => e = .returned (.tuple #[]) ∧ HoldV w' c (lpV (againP t q) pv nx) lpT ∧ w.grownBy w' (some c) := by
  obtain ⟨x0, x1, x2, x3, x4, x5⟩ := q
  have h0' : 1 ≤ x3 := h0
  have h1' : x3 ≤ 1000000 := h1
  have c5 := h.cell 5 _ rfl; have c2 := h.cell 2 _ rfl; have c3 := h.cell 3 _ rfl; have cf := h.frozen
  have HC2 : Hid (HoldV (((w.setCell ⟨c, 5, none⟩ (.bool false)).setCell ⟨c, 2, none⟩ (.int .i64 t)).setCell ⟨c, 3, none⟩ (.int .i64 (min (x3 + 1) 1000000))) c (lpV ⟨x0, x1, t, min (x3 + 1) 1000000, x4, false⟩ pv nx) lpT) := hide (hv_set (hv_set (hv_set h 5 _) 2 _) 3 _)
  have HG : Hid (w.grownBy (((w.setCell ⟨c, 5, none⟩ (.bool false)).setCell ⟨c, 2, none⟩ (.int .i64 t)).setCell ⟨c, 3, none⟩ (.int .i64 (min (x3 + 1) 1000000))) (some c)) := hide (gr_set (gr_set (gr_set (grown_reflp _ _) 5 _) 2 _) 3 _)
  clear h h0 h1
  go_enter Try.func29, Try.ntmps29
  go_wp2_with fail
  go_end0
  exact ⟨rfl, HC2.out, HG.out⟩
end Go.Proofs.Ytfffkgladjphoaa
