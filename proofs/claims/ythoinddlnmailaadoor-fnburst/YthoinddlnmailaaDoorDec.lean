/-
Contracts of functions of this seat.
-/
import Derived.Test.YthoinddlnmailaaDoorRows
import Derived.WalkKit
import Derived.ProofKit
import Derived.OpenShut
import Derived.Test.YthoinddlnmailaaDoorDeg
import Derived.Deep.RegionHeld3
namespace Go.Proofs.YthoinddlnmailaaDoor
open Go.ChangeShapes Go.WideShapes Go.ChangeAt Go.RowKit
set_option linter.unusedVariables false
set_option maxRecDepth 100000
/-- The state of DecodeFrame behind an error. -/
def DecE (w W : World) (a : Option Addr) (n cap F : Nat) (c x0 x1 x2 : Int) (v : Value) : Prop :=
  ResF w W ∧ Cur W (w.heap.size + 1) (.slice a n cap) 0 (wErr c) ∧ FrB W F x0 x1 x2 v ∧ w.heap.size + 1 < F
theorem DecE.next {w W W' : World} {a : Option Addr} {n cap F : Nat} {c x0 x1 x2 : Int} {v : Value} (h : DecE w W a n cap F c x0 x1 x2 v) (hb : Below W.heap.size W W') : DecE w W' a n cap F c x0 x1 x2 v := by
  obtain ⟨h1, h2, h3, h6⟩ := h
  exact ⟨h1.next hb, h2.below hb h2.lt, (hb.block F h3.lt).trans h3, h6⟩
theorem DecE.drewN {w W : World} {a : Option Addr} {n cap F : Nat} {c x0 x1 x2 : Int} {v : Value} (h : DecE w W a n cap F c x0 x1 x2 v) (m : Nat) : DecE w (W.drewN m) a n cap F c x0 x1 x2 v := h.next (below_drewN (Below.refl _ _) m)
theorem DecE.cells {w W : World} {a : Option Addr} {n cap F : Nat} {c x0 x1 x2 : Int} {v : Value} (h : DecE w W a n cap F c x0 x1 x2 v) : W.cell? ⟨F, 0, none⟩ = some (.int .i64 x0) ∧ W.cell? ⟨F, 1, none⟩ = some (.int .i64 x1) ∧ W.cell? ⟨F, 2, none⟩ = some (.int .i64 x2) ∧ W.cell? ⟨F, 3, none⟩ = some v ∧ ∀ o, W.frozen? ⟨F, o, none⟩ = false := four_cells h.2.2.1
theorem DecE.other {w W : World} {a : Option Addr} {n cap F i : Nat} {c x0 x1 x2 y0 y1 y2 : Int} {u v : Value} (h : DecE w W a n cap F c x0 x1 x2 v) (x : Value) (hf : FrB (W.setCell ⟨F, i, none⟩ x) F y0 y1 y2 u) : DecE w (W.setCell ⟨F, i, none⟩ x) a n cap F c y0 y1 y2 u := by
  obtain ⟨h1, h2, h3, h6⟩ := h
  have hg := grown_cell W F i x
  exact ⟨h1.kept hg (by omega), h2.kept hg (by intro e; cases e; omega), hf, h6⟩
theorem DecE.set0 {w W : World} {a : Option Addr} {n cap F : Nat} {c x0 x1 x2 : Int} {v : Value} (h : DecE w W a n cap F c x0 x1 x2 v) (y : Int) : DecE w (W.setCell ⟨F, 0, none⟩ (.int .i64 y)) a n cap F c y x1 x2 v := h.other _ (heap_setCell_same W F 0 _ _ _ h.2.2.1)
theorem DecE.set1 {w W : World} {a : Option Addr} {n cap F : Nat} {c x0 x1 x2 : Int} {v : Value} (h : DecE w W a n cap F c x0 x1 x2 v) (y : Int) : DecE w (W.setCell ⟨F, 1, none⟩ (.int .i64 y)) a n cap F c x0 y x2 v := h.other _ (heap_setCell_same W F 1 _ _ _ h.2.2.1)
theorem DecE.set2 {w W : World} {a : Option Addr} {n cap F : Nat} {c x0 x1 x2 : Int} {v : Value} (h : DecE w W a n cap F c x0 x1 x2 v) (y : Int) : DecE w (W.setCell ⟨F, 2, none⟩ (.int .i64 y)) a n cap F c x0 x1 y v := h.other _ (heap_setCell_same W F 2 _ _ _ h.2.2.1)
theorem DecE.set3 {w W : World} {a : Option Addr} {n cap F : Nat} {c x0 x1 x2 : Int} {v : Value} (h : DecE w W a n cap F c x0 x1 x2 v) (u : Value) : DecE w (W.setCell ⟨F, 3, none⟩ u) a n cap F c x0 x1 x2 u := h.other _ (heap_setCell_same W F 3 _ _ _ h.2.2.1)
set_option maxHeartbeats 4000000 in
theorem implDec_short (a : Option Addr) (n cap : Nat) (w : World) (h : n < 18) (hm : n ≤ 1048576) (he : ErrT w) :
    Calls Tryd.prog 13 #[.slice a n cap] w fun r w' => r = .returned (.tuple #[.agg #[.int .i64 0, .int .i64 0, .int .i64 0, .slice none 0 0], .int .i64 2]) ∧ Below w.heap.size w w' := by
  have hd : decide ((18 : Int) ≤ (n : Int)) = false := decide_eq_false (by omega)
  have HF := hide (decW_facts w (.slice a n cap))
  have HE := hide he
  clear he
  go_enter Tryd.func13, Tryd.ntmps13
  go_wp2_with fail
  have CD := hide (fun code => demand_yes (w.heap.size + 1) 0 (.slice a n cap) code _ HF.out.2.1)
  have CN := hide (fun code => demand_no (w.heap.size + 1) 0 (.slice a n cap) code _ HF.out.2.1)
  have HR0 := hide HF.out.1
  have HZ0 := hide HF.out.2.2
  clear HF
  generalize hW : decW w (.slice a n cap) = W at *
  unfold decW at hW
  rw [hW]
  clear hW
  refine (CN.out _).mono ?_
  rintro e w1 ⟨rfl, hc1, hg1⟩
  have HC1 := hide hc1
  have HR1 := hide (HR0.out.kept hg1 (by omega))
  have hz1 : w.heap.size + 2 ≤ w1.heap.size := by have := hg1.size; have := HZ0.out; omega
  clear hc1 hg1 HR0 HZ0
  go_wp2_with fail
  refine (demand_err (w.heap.size + 1) 0 _ 2 _ _ w1 HC1.out).mono ?_
  rintro e w0 ⟨rfl, hw0⟩
  rw [hw0]
  clear hw0 CD CN
  have hal := (Below.refl w1.heap.size w1).alloc (Nat.le_refl _) (.cells #[.int .i64 0, .int .i64 0, .int .i64 0, .slice none 0 0] 32)
  have hS : DecE w (w1.alloc (.cells #[.int .i64 0, .int .i64 0, .int .i64 0, .slice none 0 0] 32)) a n cap w1.heap.size 2 0 0 0 (.slice none 0 0) :=
    ⟨HR1.out.next hal, HC1.out.below hal HC1.out.lt, heap_alloc_new _ _, by omega⟩
  have HS0 := hide hS
  clear hS hal HR1 HC1
  go_wp2_with fail
  generalize hV : w1.alloc (.cells #[.int .i64 0, .int .i64 0, .int .i64 0, .slice none 0 0] 32) = V at *
  clear hV
  generalize w1.heap.size = F at *
  refine (take_err (w.heap.size + 1) 0 n cap a 2 6 V HS0.out.2.1 (by omega) (by omega) (by omega) (by omega)).mono ?_
  rintro e u0 ⟨rfl, m0, rfl⟩
  have HT0 := hide (HS0.out.drewN m0)
  clear HS0
  generalize V.drewN m0 = U0 at *
  obtain ⟨f0, f1, f2, f3, ff⟩ := HT0.out.cells
  have HS1 := hide (HT0.out.set0 0)
  clear HT0
  go_wp2_with fail
  generalize hV : U0.setCell ⟨F, 0, none⟩ (.int .i64 0) = V0 at *
  clear hV f0 f1 f2 f3 ff
  refine (take_err (w.heap.size + 1) 0 n cap a 2 6 V0 HS1.out.2.1 (by omega) (by omega) (by omega) (by omega)).mono ?_
  rintro e u1 ⟨rfl, m1, rfl⟩
  have HT1 := hide (HS1.out.drewN m1)
  clear HS1
  generalize V0.drewN m1 = U1 at *
  obtain ⟨f0, f1, f2, f3, ff⟩ := HT1.out.cells
  have HS2 := hide (HT1.out.set1 0)
  clear HT1
  go_wp2_with fail
  generalize hV : U1.setCell ⟨F, 1, none⟩ (.int .i64 0) = V1 at *
  clear hV f0 f1 f2 f3 ff
  refine (take_err (w.heap.size + 1) 0 n cap a 2 2 V1 HS2.out.2.1 (by omega) (by omega) (by omega) (by omega)).mono ?_
  rintro e u2 ⟨rfl, m2, rfl⟩
  have HT2 := hide (HS2.out.drewN m2)
  clear HS2
  generalize V1.drewN m2 = U2 at *
  obtain ⟨f0, f1, f2, f3, ff⟩ := HT2.out.cells
  have HS3 := hide (HT2.out.set2 0)
  clear HT2
  go_wp2_with fail
  generalize hV : U2.setCell ⟨F, 2, none⟩ (.int .i64 0) = V2 at *
  clear hV f0 f1 f2 f3 ff
  refine (left_walk (w.heap.size + 1) 0 n cap a (wErr 2) V2 HS3.out.2.1 (by omega) (by omega)).mono ?_
  rintro e u3 ⟨rfl, m3, rfl⟩
  have HS4 := hide (HS3.out.drewN m3)
  clear HS3
  generalize V2.drewN m3 = V3 at *
  go_wp2_with fail
  refine (takeBytes_err (w.heap.size + 1) 0 n cap a 2 _ V3 HS4.out.2.1 (by omega) (by omega) (by omega) (by omega)).mono ?_
  rintro e u4 ⟨rfl, hb4⟩
  have HS5 := hide (HS4.out.next hb4)
  clear HS4 hb4
  obtain ⟨f0, f1, f2, f3, ff⟩ := HS5.out.cells
  have HS6 := hide (HS5.out.set3 (.slice (some ⟨V3.heap.size, 0, none⟩) 0 0))
  clear HS5
  go_wp2_with fail
  generalize hV : u4.setCell ⟨F, 3, none⟩ (.slice (some ⟨V3.heap.size, 0, none⟩) 0 0) = V5 at *
  clear hV f0 f1 f2 f3 ff
  refine (passed_zero (w.heap.size + 1) n cap a (wErr 2) V5 HS6.out.2.1).mono ?_
  rintro e u5 ⟨⟨a', c', rfl⟩, m5, rfl⟩
  have HS7 := hide (HS6.out.drewN m5)
  clear HS6
  generalize V5.drewN m5 = V6 at *
  go_wp2_with fail
  refine (frameSum_walk a' 0 c' [] V6 rfl ⟨by simp, fun j hj => by simp at hj⟩ (by omega)).mono ?_
  rintro e u6 ⟨rfl, hw6⟩
  rw [hw6]
  clear hw6
  generalize rev32 (sumOf []) = y at *
  go_wp2_with fail
  refine (take_err (w.heap.size + 1) 0 n cap a 2 4 V6 HS7.out.2.1 (by omega) (by omega) (by omega) (by omega)).mono ?_
  rintro e u7 ⟨rfl, m7, rfl⟩
  have HS8 := hide (HS7.out.drewN m7)
  clear HS7
  generalize V6.drewN m7 = V7 at *
  go_wp2_with fail
  refine (demand_err (w.heap.size + 1) 0 _ 2 _ _ V7 HS8.out.2.1).mono ?_
  rintro e u8 ⟨rfl, hw8⟩
  rw [hw8]
  clear hw8
  obtain ⟨c0, c1, c2, cf⟩ := HS8.out.2.1.cells
  have HTD := hide (HS8.out.next ((Below.refl _ _).drew))
  have CA := hide (ansFrame_err (0) (0) (0) (some ⟨V3.heap.size, 0, none⟩) 0 0 2 (by decide) V7.drew (HE.out.below HTD.out.1.1 (Nat.le_refl _)))
  have HK : Hid (V7.drew.cell? ⟨F, 0, none⟩ = some (.int .i64 0) ∧ V7.drew.cell? ⟨F, 1, none⟩ = some (.int .i64 0) ∧ V7.drew.cell? ⟨F, 2, none⟩ = some (.int .i64 0) ∧ V7.drew.cell? ⟨F, 3, none⟩ = some (.slice (some ⟨V3.heap.size, 0, none⟩) 0 0) ∧ V7.drew.cell? ⟨w.heap.size + 1, 2, none⟩ = some (wErr 2)) := hide ⟨HTD.out.cells.1, HTD.out.cells.2.1, HTD.out.cells.2.2.1, HTD.out.cells.2.2.2.1, HTD.out.2.1.cells.2.2.1⟩
  have hRF : w.heap.size ≠ F := by first | (have h9 := HTD.out.2.2.2.2.2; omega) | (have h9 := HTD.out.2.2.2; omega)
  have hRC : w.heap.size ≠ w.heap.size + 1 := by omega
  clear c0 c1 c2 cf HS8
  go_wp2_with fail
  go_region_held3 (fun w' => w'.cell? ⟨F, 0, none⟩ = some (.int .i64 0) ∧ w'.cell? ⟨F, 1, none⟩ = some (.int .i64 0) ∧ w'.cell? ⟨F, 2, none⟩ = some (.int .i64 0) ∧ w'.cell? ⟨F, 3, none⟩ = some (.slice (some ⟨V3.heap.size, 0, none⟩) 0 0) ∧ w'.cell? ⟨w.heap.size + 1, 2, none⟩ = some (wErr 2)) (first | with_reducible assumption | with_reducible exact HK.out | exact ⟨far4 hRF hk9.1, far4 hRF hk9.2.1, far4 hRF hk9.2.2.1, far4 hRF hk9.2.2.2.1, far4 hRC hk9.2.2.2.2⟩)
    ((go_at_call 49; refine CA.out.mono ?_; rintro e w88 ⟨rfl, hb88⟩; have hk9 : w88.cell? ⟨F, 0, none⟩ = some (.int .i64 0) ∧ w88.cell? ⟨F, 1, none⟩ = some (.int .i64 0) ∧ w88.cell? ⟨F, 2, none⟩ = some (.int .i64 0) ∧ w88.cell? ⟨F, 3, none⟩ = some (.slice (some ⟨V3.heap.size, 0, none⟩) 0 0) ∧ w88.cell? ⟨w.heap.size + 1, 2, none⟩ = some (wErr 2) := ⟨(HTD.out.next hb88).cells.1, (HTD.out.next hb88).cells.2.1, (HTD.out.next hb88).cells.2.2.1, (HTD.out.next hb88).cells.2.2.2.1, (HTD.out.next hb88).2.1.cells.2.2.1⟩; obtain ⟨d0, d1, d2, d3, df⟩ := (HTD.out.next hb88).1.cells))
  all_goals
    have HS9 := hide (HTD.out.next hb88)
    have HRES := hide HS9.out.1.1
    clear hb88 HTD CA HK hk9
    go_wp2_with fail
    exact bodyPost_ret (v := .tuple #[.agg #[.int .i64 0, .int .i64 0, .int .i64 0, .slice none 0 0], .int .i64 2]) (by simp [results, Tryd.results13, go_sem, d0, d1, d2, d3]) rfl ⟨rfl, below_four HRES.out⟩
set_option maxHeartbeats 4000000 in
theorem implDec_long (a : Option Addr) (n cap : Nat) (w : World) (h : 1518 < n) (hm : n ≤ 1048576) (he : ErrT w) :
    Calls Tryd.prog 13 #[.slice a n cap] w fun r w' => r = .returned (.tuple #[.agg #[.int .i64 0, .int .i64 0, .int .i64 0, .slice none 0 0], .int .i64 7]) ∧ Below w.heap.size w w' := by
  have hi0 : (18 : Int) ≤ (n : Int) := by omega
  have hd : decide ((n : Int) ≤ 1518) = false := decide_eq_false (by omega)
  have HF := hide (decW_facts w (.slice a n cap))
  have HE := hide he
  clear he
  go_enter Tryd.func13, Tryd.ntmps13
  go_wp2_with fail
  have CD := hide (fun code => demand_yes (w.heap.size + 1) 0 (.slice a n cap) code _ HF.out.2.1)
  have CN := hide (fun code => demand_no (w.heap.size + 1) 0 (.slice a n cap) code _ HF.out.2.1)
  have HR0 := hide HF.out.1
  have HZ0 := hide HF.out.2.2
  clear HF
  generalize hW : decW w (.slice a n cap) = W at *
  unfold decW at hW
  rw [hW]
  clear hW
  refine (CD.out _).mono ?_
  rintro e w0 ⟨rfl, hw0⟩
  rw [hw0]
  clear hw0
  go_wp2_with fail
  refine (CN.out _).mono ?_
  rintro e w1 ⟨rfl, hc1, hg1⟩
  have HC1 := hide hc1
  have HR1 := hide (HR0.out.kept hg1 (by omega))
  have hz1 : w.heap.size + 2 ≤ w1.heap.size := by have := hg1.size; have := HZ0.out; omega
  clear hc1 hg1 HR0 HZ0 CD CN
  have hal := (Below.refl w1.heap.size w1).alloc (Nat.le_refl _) (.cells #[.int .i64 0, .int .i64 0, .int .i64 0, .slice none 0 0] 32)
  have hS : DecE w (w1.alloc (.cells #[.int .i64 0, .int .i64 0, .int .i64 0, .slice none 0 0] 32)) a n cap w1.heap.size 7 0 0 0 (.slice none 0 0) :=
    ⟨HR1.out.next hal, HC1.out.below hal HC1.out.lt, heap_alloc_new _ _, by omega⟩
  have HS0 := hide hS
  clear hS hal HR1 HC1
  go_wp2_with fail
  generalize hV : w1.alloc (.cells #[.int .i64 0, .int .i64 0, .int .i64 0, .slice none 0 0] 32) = V at *
  clear hV
  generalize w1.heap.size = F at *
  refine (take_err (w.heap.size + 1) 0 n cap a 7 6 V HS0.out.2.1 (by omega) (by omega) (by omega) (by omega)).mono ?_
  rintro e u0 ⟨rfl, m0, rfl⟩
  have HT0 := hide (HS0.out.drewN m0)
  clear HS0
  generalize V.drewN m0 = U0 at *
  obtain ⟨f0, f1, f2, f3, ff⟩ := HT0.out.cells
  have HS1 := hide (HT0.out.set0 0)
  clear HT0
  go_wp2_with fail
  generalize hV : U0.setCell ⟨F, 0, none⟩ (.int .i64 0) = V0 at *
  clear hV f0 f1 f2 f3 ff
  refine (take_err (w.heap.size + 1) 0 n cap a 7 6 V0 HS1.out.2.1 (by omega) (by omega) (by omega) (by omega)).mono ?_
  rintro e u1 ⟨rfl, m1, rfl⟩
  have HT1 := hide (HS1.out.drewN m1)
  clear HS1
  generalize V0.drewN m1 = U1 at *
  obtain ⟨f0, f1, f2, f3, ff⟩ := HT1.out.cells
  have HS2 := hide (HT1.out.set1 0)
  clear HT1
  go_wp2_with fail
  generalize hV : U1.setCell ⟨F, 1, none⟩ (.int .i64 0) = V1 at *
  clear hV f0 f1 f2 f3 ff
  refine (take_err (w.heap.size + 1) 0 n cap a 7 2 V1 HS2.out.2.1 (by omega) (by omega) (by omega) (by omega)).mono ?_
  rintro e u2 ⟨rfl, m2, rfl⟩
  have HT2 := hide (HS2.out.drewN m2)
  clear HS2
  generalize V1.drewN m2 = U2 at *
  obtain ⟨f0, f1, f2, f3, ff⟩ := HT2.out.cells
  have HS3 := hide (HT2.out.set2 0)
  clear HT2
  go_wp2_with fail
  generalize hV : U2.setCell ⟨F, 2, none⟩ (.int .i64 0) = V2 at *
  clear hV f0 f1 f2 f3 ff
  refine (left_walk (w.heap.size + 1) 0 n cap a (wErr 7) V2 HS3.out.2.1 (by omega) (by omega)).mono ?_
  rintro e u3 ⟨rfl, m3, rfl⟩
  have HS4 := hide (HS3.out.drewN m3)
  clear HS3
  generalize V2.drewN m3 = V3 at *
  go_wp2_with fail
  refine (takeBytes_err (w.heap.size + 1) 0 n cap a 7 _ V3 HS4.out.2.1 (by omega) (by omega) (by omega) (by omega)).mono ?_
  rintro e u4 ⟨rfl, hb4⟩
  have HS5 := hide (HS4.out.next hb4)
  clear HS4 hb4
  obtain ⟨f0, f1, f2, f3, ff⟩ := HS5.out.cells
  have HS6 := hide (HS5.out.set3 (.slice (some ⟨V3.heap.size, 0, none⟩) 0 0))
  clear HS5
  go_wp2_with fail
  generalize hV : u4.setCell ⟨F, 3, none⟩ (.slice (some ⟨V3.heap.size, 0, none⟩) 0 0) = V5 at *
  clear hV f0 f1 f2 f3 ff
  refine (passed_zero (w.heap.size + 1) n cap a (wErr 7) V5 HS6.out.2.1).mono ?_
  rintro e u5 ⟨⟨a', c', rfl⟩, m5, rfl⟩
  have HS7 := hide (HS6.out.drewN m5)
  clear HS6
  generalize V5.drewN m5 = V6 at *
  go_wp2_with fail
  refine (frameSum_walk a' 0 c' [] V6 rfl ⟨by simp, fun j hj => by simp at hj⟩ (by omega)).mono ?_
  rintro e u6 ⟨rfl, hw6⟩
  rw [hw6]
  clear hw6
  generalize rev32 (sumOf []) = y at *
  go_wp2_with fail
  refine (take_err (w.heap.size + 1) 0 n cap a 7 4 V6 HS7.out.2.1 (by omega) (by omega) (by omega) (by omega)).mono ?_
  rintro e u7 ⟨rfl, m7, rfl⟩
  have HS8 := hide (HS7.out.drewN m7)
  clear HS7
  generalize V6.drewN m7 = V7 at *
  go_wp2_with fail
  refine (demand_err (w.heap.size + 1) 0 _ 7 _ _ V7 HS8.out.2.1).mono ?_
  rintro e u8 ⟨rfl, hw8⟩
  rw [hw8]
  clear hw8
  obtain ⟨c0, c1, c2, cf⟩ := HS8.out.2.1.cells
  have HTD := hide (HS8.out.next ((Below.refl _ _).drew))
  have CA := hide (ansFrame_err (0) (0) (0) (some ⟨V3.heap.size, 0, none⟩) 0 0 7 (by decide) V7.drew (HE.out.below HTD.out.1.1 (Nat.le_refl _)))
  have HK : Hid (V7.drew.cell? ⟨F, 0, none⟩ = some (.int .i64 0) ∧ V7.drew.cell? ⟨F, 1, none⟩ = some (.int .i64 0) ∧ V7.drew.cell? ⟨F, 2, none⟩ = some (.int .i64 0) ∧ V7.drew.cell? ⟨F, 3, none⟩ = some (.slice (some ⟨V3.heap.size, 0, none⟩) 0 0) ∧ V7.drew.cell? ⟨w.heap.size + 1, 2, none⟩ = some (wErr 7)) := hide ⟨HTD.out.cells.1, HTD.out.cells.2.1, HTD.out.cells.2.2.1, HTD.out.cells.2.2.2.1, HTD.out.2.1.cells.2.2.1⟩
  have hRF : w.heap.size ≠ F := by first | (have h9 := HTD.out.2.2.2.2.2; omega) | (have h9 := HTD.out.2.2.2; omega)
  have hRC : w.heap.size ≠ w.heap.size + 1 := by omega
  clear c0 c1 c2 cf HS8
  go_wp2_with fail
  go_region_held3 (fun w' => w'.cell? ⟨F, 0, none⟩ = some (.int .i64 0) ∧ w'.cell? ⟨F, 1, none⟩ = some (.int .i64 0) ∧ w'.cell? ⟨F, 2, none⟩ = some (.int .i64 0) ∧ w'.cell? ⟨F, 3, none⟩ = some (.slice (some ⟨V3.heap.size, 0, none⟩) 0 0) ∧ w'.cell? ⟨w.heap.size + 1, 2, none⟩ = some (wErr 7)) (first | with_reducible assumption | with_reducible exact HK.out | exact ⟨far4 hRF hk9.1, far4 hRF hk9.2.1, far4 hRF hk9.2.2.1, far4 hRF hk9.2.2.2.1, far4 hRC hk9.2.2.2.2⟩)
    ((go_at_call 49; refine CA.out.mono ?_; rintro e w88 ⟨rfl, hb88⟩; have hk9 : w88.cell? ⟨F, 0, none⟩ = some (.int .i64 0) ∧ w88.cell? ⟨F, 1, none⟩ = some (.int .i64 0) ∧ w88.cell? ⟨F, 2, none⟩ = some (.int .i64 0) ∧ w88.cell? ⟨F, 3, none⟩ = some (.slice (some ⟨V3.heap.size, 0, none⟩) 0 0) ∧ w88.cell? ⟨w.heap.size + 1, 2, none⟩ = some (wErr 7) := ⟨(HTD.out.next hb88).cells.1, (HTD.out.next hb88).cells.2.1, (HTD.out.next hb88).cells.2.2.1, (HTD.out.next hb88).cells.2.2.2.1, (HTD.out.next hb88).2.1.cells.2.2.1⟩; obtain ⟨d0, d1, d2, d3, df⟩ := (HTD.out.next hb88).1.cells))
  all_goals
    have HS9 := hide (HTD.out.next hb88)
    have HRES := hide HS9.out.1.1
    clear hb88 HTD CA HK hk9
    go_wp2_with fail
    exact bodyPost_ret (v := .tuple #[.agg #[.int .i64 0, .int .i64 0, .int .i64 0, .slice none 0 0], .int .i64 7]) (by simp [results, Tryd.results13, go_sem, d0, d1, d2, d3]) rfl ⟨rfl, below_four HRES.out⟩
/-- DecodeFrame of the program. -/
theorem implDec_walk (a : Option Addr) (n cap : Nat) (zs : List Int) (w : World) (hn : zs.length = n) (ha : Arr w a zs) (hm : n ≤ 1048576) (hc : n ≤ cap) (he : ErrT w) :
    Calls Tryd.prog 13 #[.slice a n cap] w fun r w' => ∃ v : Value, r = .returned (.tuple #[.agg #[.int .i64 (dfD zs), .int .i64 (dfS zs), .int .i64 (dfT zs), v], .int .i64 (dfC zs)]) ∧ OwnB w' w.heap.size v (dfP zs) ∧ Below w.heap.size w w' := by
  have bad : ∀ c : Int, dfC zs = c → ¬ c = 0 → ∀ r w', r = Ending.returned (.tuple #[.agg #[.int .i64 0, .int .i64 0, .int .i64 0, .slice none 0 0], .int .i64 c]) ∧ Below w.heap.size w w' →
      ∃ v : Value, r = .returned (.tuple #[.agg #[.int .i64 (dfD zs), .int .i64 (dfS zs), .int .i64 (dfT zs), v], .int .i64 (dfC zs)]) ∧ OwnB w' w.heap.size v (dfP zs) ∧ Below w.heap.size w w' := by
    rintro c hc' h0 r w' ⟨rfl, hb⟩
    obtain ⟨e0, e1, e2, e3⟩ := df_no (zs := zs) (by rw [hc']; exact h0)
    rw [e0, e1, e2, e3, hc']
    exact ⟨_, rfl, ⟨World.ownsRow_nil _ _ _ _, by simp⟩, hb⟩
  by_cases h1 : n < 18
  · exact (implDec_short a n cap w h1 hm he).mono (bad 2 (by unfold dfC; rw [if_pos (by omega)]) (by decide))
  · by_cases h2 : 1518 < n
    · exact (implDec_long a n cap w h2 hm he).mono (bad 7 (by unfold dfC; rw [if_neg (by omega), if_pos (by omega)]) (by decide))
    · obtain ⟨b, off, rfl, _⟩ := ha.2 0 (by omega)
      cases hs : sumB zs with
      | false => exact (implDec_sum b off n cap zs w hn ha (by omega) (by omega) hc hs he).mono (bad 3 (by unfold dfC; rw [if_neg (by omega), if_neg (by omega), hs]; rfl) (by decide))
      | true =>
        have hC : dfC zs = 0 := by unfold dfC; rw [if_neg (by omega), if_neg (by omega), hs]; rfl
        obtain ⟨e0, e1, e2, e3⟩ := df_yes hC
        refine (implDec_good b off n cap zs w hn ha (by omega) (by omega) hc hs).mono ?_
        rintro r w' ⟨v, rfl, hO, hb⟩
        rw [e0, e1, e2, e3, hC, hn]
        exact ⟨v, rfl, hO, hb⟩
end Go.Proofs.YthoinddlnmailaaDoor
