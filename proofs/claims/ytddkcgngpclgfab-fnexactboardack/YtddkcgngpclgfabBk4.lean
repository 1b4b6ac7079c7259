/-
Contracts of functions of this seat.
-/
import Derived.Test.YtddkcgngpclgfabRows
import Derived.WalkKit
import Derived.ProofKit
import Derived.OpenShut
import Derived.Test.YtddkcgngpclgfabBk3
namespace Go.Proofs.Ytddkcgngpclgfab
open Go.ChangeShapes Go.WideShapes Go.ChangeAt Go.RowKit
set_option linter.unusedVariables false
set_option maxRecDepth 100000
theorem decide_two {a b : Prop} [Decidable a] [Decidable b] (h : a) : decide (a ∧ b) = decide b := by
  by_cases hb : b
  · rw [decide_eq_true hb, decide_eq_true ⟨h, hb⟩]
  · rw [decide_eq_false hb, decide_eq_false (fun hh => hb hh.2)]
set_option maxHeartbeats 16000000 in
theorem sackIs_walk (bl bp L c : Nat) (u x : Int) (ns : List (Nat × PieceM)) (q : PieceM) (pv nx : Option Nat) (s0 s1 : Int) (w : World) (hl : w.cell? ⟨bl, 0, none⟩ = some (.pointer (some ⟨L, 0, none⟩))) (hll : bl < w.heap.size) (hp : w.cell? ⟨bp, 0, none⟩ = some (.pointer (some ⟨c, 0, none⟩))) (hpl : bp < w.heap.size) (hL : HoldV w L (plV u x ns) plT) (hc : HoldV w c (lpV q pv nx) lpT) :
    Calls Try.prog 46 #[.agg #[.int .i64 s0, .int .i64 s1], .pointer (some ⟨bl, 0, none⟩), .pointer (some ⟨bp, 0, none⟩)] w fun e w' => e = .returned (.bool (decide (u ≤ s0 ∧ s0 < s1 ∧ s1 ≤ x ∧ s0 ≤ q.f0 ∧ q.f1 ≤ s1))) ∧ Below w.heap.size w w' := by
  obtain ⟨x0, x1, x2, x3, x4, x5⟩ := q
  have hal := (Below.refl w.heap.size w).alloc (Nat.le_refl _) (.cells #[.int .i64 s0, .int .i64 s1] 70)
  have hS := hv_new w #[.int .i64 s0, .int .i64 s1] 70
  have HW : Hid (∀ W, Below (w.alloc (.cells #[.int .i64 s0, .int .i64 s1] 70)).heap.size (w.alloc (.cells #[.int .i64 s0, .int .i64 s1] 70)) W → HoldV W L (plV u x ns) plT ∧ HoldV W c (lpV ⟨x0, x1, x2, x3, x4, x5⟩ pv nx) lpT ∧ W.cell? ⟨bl, 0, none⟩ = some (.pointer (some ⟨L, 0, none⟩)) ∧ W.cell? ⟨bp, 0, none⟩ = some (.pointer (some ⟨c, 0, none⟩)) ∧ HoldV W w.heap.size #[.int .i64 s0, .int .i64 s1] 70 ∧ Below w.heap.size w W) := hide (fun W hW => by
    have ha : Below w.heap.size w W := hal.trans (hW.mono hal.size)
    exact ⟨hL.next ha, hc.next ha, (ha.cell (p := ⟨bl, 0, none⟩) hll).trans hl, (ha.cell (p := ⟨bp, 0, none⟩) hpl).trans hp, hS.next hW, ha⟩)
  clear hl hp hL hc hal hS hll hpl
  obtain ⟨hL1, hc1, hl1, hp1, hS1, _⟩ := HW.out _ (Below.refl _ _)
  have j0 := hS1.cell 0 _ rfl; have j1 := hS1.cell 1 _ rfl
  clear hL1 hc1 hS1
  by_cases hA : u ≤ s0 ∧ s0 < s1 ∧ s1 ≤ x
  · have CC : Hid (∀ W, HoldV W L (plV u x ns) plT → Calls Try.prog 47 #[.pointer (some ⟨L, 0, none⟩), .agg #[.int .i64 s0, .int .i64 s1]] W fun e w' => e = .returned (.bool true) ∧ Below W.heap.size W w') := hide (fun W h => by
      have hh := counts_walk L u x ns s0 s1 W h
      rw [decide_eq_true hA] at hh
      exact hh)
    have HE : Hid (decide (s0 ≤ x0 ∧ x1 ≤ s1) = decide (u ≤ s0 ∧ s0 < s1 ∧ s1 ≤ x ∧ s0 ≤ x0 ∧ x1 ≤ s1)) := hide (by
      rw [decide_two hA.1, decide_two hA.2.1, decide_two hA.2.2])
    clear hA
    go_enter Try.func46, Try.ntmps46
    go_upto_region 1 with fail
    generalize w.alloc (.cells #[.int .i64 s0, .int .i64 s1] 70) = W1 at *
    go_region_with (first
      | (go_at_call 47; refine (CC.out _ (HW.out _ ((Below.refl _ _).drew)).1).mono ?_; rintro e w2 ⟨rfl, hb2⟩; obtain ⟨_, hc2, hl2, hp2, hS2, _⟩ := HW.out _ (below_drew hb2); have HB2 := hide (below_drew hb2); have i0 := hS2.cell 0 _ rfl; have i1 := hS2.cell 1 _ rfl; have c0 := hc2.cell 0 _ rfl; have c1 := hc2.cell 1 _ rfl; have c2 := hc2.cell 2 _ rfl; have c3 := hc2.cell 3 _ rfl; have c4 := hc2.cell 4 _ rfl; have c5 := hc2.cell 5 _ rfl; try dsimp only at c0 c1 c2 c3 c4 c5; clear hc2 hS2 hb2)
      | (go_at_call 48; refine (liesWithin_walk _ _ _ _ _ _ _ _ _).mono ?_; rintro e w3 ⟨rfl, hb3⟩; have HB3 := hide (HB2.out.trans (hb3.mono HB2.out.size)); clear hb3))
    all_goals (try go_wp2_with fail)
    all_goals go_ret
    all_goals exact ⟨ret_bool ((Bool.decide_and _ _).symm.trans HE.out), (HW.out _ HB3.out).2.2.2.2.2⟩
  · have CC : Hid (∀ W, HoldV W L (plV u x ns) plT → Calls Try.prog 47 #[.pointer (some ⟨L, 0, none⟩), .agg #[.int .i64 s0, .int .i64 s1]] W fun e w' => e = .returned (.bool false) ∧ Below W.heap.size W w') := hide (fun W h => by
      have hh := counts_walk L u x ns s0 s1 W h
      rw [decide_eq_false hA] at hh
      exact hh)
    have HE : Hid (false = decide (u ≤ s0 ∧ s0 < s1 ∧ s1 ≤ x ∧ s0 ≤ x0 ∧ x1 ≤ s1)) := hide ((decide_eq_false (fun h => hA ⟨h.1, h.2.1, h.2.2.1⟩)).symm)
    clear hA
    go_enter Try.func46, Try.ntmps46
    go_upto_region 1 with fail
    generalize w.alloc (.cells #[.int .i64 s0, .int .i64 s1] 70) = W1 at *
    go_region_with (go_at_call 47; refine (CC.out _ (HW.out _ ((Below.refl _ _).drew)).1).mono ?_; rintro e w2 ⟨rfl, hb2⟩; have HB2 := hide (below_drew hb2); clear hb2)
    all_goals (try go_wp2_with fail)
    all_goals go_ret
    all_goals exact ⟨ret_bool HE.out, (HW.out _ HB2.out).2.2.2.2.2⟩
end Go.Proofs.Ytddkcgngpclgfab
