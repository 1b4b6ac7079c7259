/-
Contracts of functions of this seat.
-/
import Derived.Test.YtakoagfeiolkjaaDoorRows
import Derived.WalkKit
import Derived.ProofKit
import Derived.OpenShut
import Derived.Test.YtakoagfeiolkjaaDoorAsm
import Derived.Test.YtakoagfeiolkjaaDoorCur
import Derived.Test.YtakoagfeiolkjaaDoorStp
namespace Go.Proofs.YtakoagfeiolkjaaDoor
open Go.ChangeShapes Go.WideShapes Go.ChangeAt Go.RowKit
set_option linter.unusedVariables false
set_option maxRecDepth 100000
/-- A box laid at the world's end, and kept. -/
def BoxV (w W : World) (vs : Array Value) (T : Nat) : Prop := Below w.heap.size w W ∧ w.heap.size < W.heap.size ∧ W.heap[w.heap.size]? = some (.cells vs T)
theorem BoxV.start (w : World) (vs : Array Value) (T : Nat) : BoxV w (w.alloc (.cells vs T)) vs T :=
  ⟨(Below.refl _ _).alloc (Nat.le_refl _) _, by rw [World.size_alloc]; omega, heap_alloc_new _ _⟩
theorem BoxV.next {w W W' : World} {vs : Array Value} {T : Nat} (h : BoxV w W vs T) (hb : Below W.heap.size W W') : BoxV w W' vs T :=
  ⟨h.1.trans (hb.mono (Nat.le_of_lt h.2.1)), Nat.lt_of_lt_of_le h.2.1 hb.size, (hb.block _ h.2.1).trans h.2.2⟩
theorem BoxV.keep {w W W' : World} {vs : Array Value} {T B : Nat} (h : BoxV w W vs T) (hb : Below B W W') (hB : w.heap.size < B) : BoxV w W' vs T :=
  ⟨h.1.trans (hb.mono (Nat.le_of_lt hB)), Nat.lt_of_lt_of_le h.2.1 hb.size, (hb.block _ hB).trans h.2.2⟩
def HoldV (w : World) (H : Nat) (vs : Array Value) (T : Nat) : Prop := w.heap[H]? = some (.cells vs T)
theorem HoldV.lt {w : World} {H T : Nat} {vs : Array Value} (h : HoldV w H vs T) : H < w.heap.size := (Array.getElem?_eq_some_iff.1 h).1
theorem HoldV.below {w w' : World} {H T B : Nat} {vs : Array Value} (h : HoldV w H vs T) (hb : Below B w w') (hB : H < B) : HoldV w' H vs T := (hb.block H hB).trans h
theorem HoldV.next {w w' : World} {H T : Nat} {vs : Array Value} (h : HoldV w H vs T) (hb : Below w.heap.size w w') : HoldV w' H vs T := h.below hb h.lt
theorem HoldV.cell {w : World} {H T : Nat} {vs : Array Value} (h : HoldV w H vs T) (i : Nat) (v : Value) (hv : vs[i]? = some v) : w.cell? ⟨H, i, none⟩ = some v := (cell_of_row _ _ _ _ _ _ h).trans hv
theorem HoldV.frozen {w : World} {H T : Nat} {vs : Array Value} (h : HoldV w H vs T) (o : Nat) : w.frozen? ⟨H, o, none⟩ = false := frozen_of_row w H o _ _ h
theorem two_allocs (w : World) (o1 o2 : Obj) : Below w.heap.size w ((w.alloc o1).alloc o2) ∧ ((w.alloc o1).alloc o2).heap[w.heap.size]? = some o1 ∧ ((w.alloc o1).alloc o2).heap[w.heap.size + 1]? = some o2 := by
  have s1 := World.size_alloc w o1
  refine ⟨((Below.refl _ _).alloc (Nat.le_refl _) _).alloc (by omega) _, ?_, ?_⟩
  · rw [((Below.refl (w.alloc o1).heap.size _).alloc (Nat.le_refl _) o2).block w.heap.size (by omega)]; exact heap_alloc_new _ _
  · rw [← s1]; exact heap_alloc_new _ _
theorem BoxV.cell {w W : World} {vs : Array Value} {T : Nat} (h : BoxV w W vs T) (i : Nat) (v : Value) (hv : vs[i]? = some v) : W.cell? ⟨w.heap.size, i, none⟩ = some v := cell_of_row _ _ _ _ _ _ h.2.2 |>.trans hv
theorem lt_cell {w : World} {b i : Nat} {v : Value} (h : w.cell? ⟨b, i, none⟩ = some v) : b < w.heap.size := by
  rcases Nat.lt_or_ge b w.heap.size with h' | h'
  · exact h'
  · simp [World.cell?, Array.getElem?_eq_none h'] at h


set_option maxHeartbeats 2000000 in
theorem ansIcmp_nil (x0 : Int) (x1 : Int) (x2 : Int) (a3 : Option Addr) (n3 c3 : Nat) (w : World) :
    Calls Tryd.prog 34 #[.agg #[.int .i64 x0, .int .i64 x1, .int .i64 x2, .slice a3 n3 c3], .nilIface] w fun e w' => e = .returned (.tuple #[.agg #[.int .i64 x0, .int .i64 x1, .int .i64 x2, .slice a3 n3 c3], .int .i64 0]) ∧ Below w.heap.size w w' := by
  have HB := hide (two_allocs w (.cells #[.int .i64 x0, .int .i64 x1, .int .i64 x2, .slice a3 n3 c3] 32) (.cells #[.int .i64 0, .int .i64 0, .int .i64 0, .slice none 0 0] 32))
  generalize hW : (w.alloc (.cells #[.int .i64 x0, .int .i64 x1, .int .i64 x2, .slice a3 n3 c3] 32)).alloc (.cells #[.int .i64 0, .int .i64 0, .int .i64 0, .slice none 0 0] 32) = W at *
  have HW := hide hW
  clear hW
  go_enter Tryd.func34, Tryd.ntmps34
  go_wp2_with fail
  rw [HW.out]
  refine (codeOf_nil _).mono ?_
  rintro e w1 ⟨rfl, hb1⟩
  have HV1 : Hid (HoldV w1 w.heap.size #[.int .i64 x0, .int .i64 x1, .int .i64 x2, .slice a3 n3 c3] 32) := hide (HoldV.next (show HoldV W w.heap.size _ _ from HB.out.2.1) hb1)
  have HZ1 : Hid (HoldV w1 (w.heap.size + 1) #[.int .i64 0, .int .i64 0, .int .i64 0, .slice none 0 0] 32) := hide (HoldV.next (show HoldV W (w.heap.size + 1) _ _ from HB.out.2.2) hb1)
  have HBE := hide (HB.out.1.trans (hb1.mono HB.out.1.size))
  clear hb1 HB HW
  have k0 := HV1.out.cell 0 _ rfl
  have k1 := HV1.out.cell 1 _ rfl
  have k2 := HV1.out.cell 2 _ rfl
  have k3 := HV1.out.cell 3 _ rfl
  have d0 := HZ1.out.cell 0 _ rfl
  have d1 := HZ1.out.cell 1 _ rfl
  have d2 := HZ1.out.cell 2 _ rfl
  have d3 := HZ1.out.cell 3 _ rfl
  have fz := HZ1.out.frozen
  go_wp2_with fail
  exact bodyPost_ret (v := .tuple #[.agg #[.int .i64 x0, .int .i64 x1, .int .i64 x2, .slice a3 n3 c3], .int .i64 0]) (by simp [results, Tryd.results34, go_sem, d0, d1, d2, d3]) rfl ⟨rfl, ((((HBE.out.setCell (p := ⟨w.heap.size + 1, 0, none⟩) (Nat.le_succ _) _).setCell (p := ⟨w.heap.size + 1, 1, none⟩) (Nat.le_succ _) _).setCell (p := ⟨w.heap.size + 1, 2, none⟩) (Nat.le_succ _) _).setCell (p := ⟨w.heap.size + 1, 3, none⟩) (Nat.le_succ _) _)⟩
set_option maxHeartbeats 2000000 in
theorem ansIcmp_err (x0 : Int) (x1 : Int) (x2 : Int) (a3 : Option Addr) (n3 c3 : Nat) (c : Int) (hc0 : c ≠ 0) (w : World) (he : ErrT w) :
    Calls Tryd.prog 34 #[.agg #[.int .i64 x0, .int .i64 x1, .int .i64 x2, .slice a3 n3 c3], wErr c] w fun e w' => e = .returned (.tuple #[.agg #[.int .i64 0, .int .i64 0, .int .i64 0, .slice none 0 0], .int .i64 c]) ∧ Below w.heap.size w w' := by
  have hcb : (c != 0) = true := by simpa using hc0
  clear hc0
  have HB := hide (two_allocs w (.cells #[.int .i64 x0, .int .i64 x1, .int .i64 x2, .slice a3 n3 c3] 32) (.cells #[.int .i64 0, .int .i64 0, .int .i64 0, .slice none 0 0] 32))
  generalize hW : (w.alloc (.cells #[.int .i64 x0, .int .i64 x1, .int .i64 x2, .slice a3 n3 c3] 32)).alloc (.cells #[.int .i64 0, .int .i64 0, .int .i64 0, .slice none 0 0] 32) = W at *
  have HW := hide hW
  clear hW
  go_enter Tryd.func34, Tryd.ntmps34
  go_wp2_with fail
  rw [HW.out]
  refine (codeOf_err c _ (he.below HB.out.1 (Nat.le_refl _))).mono ?_
  rintro e w1 ⟨rfl, hb1⟩
  have HV1 : Hid (HoldV w1 w.heap.size #[.int .i64 x0, .int .i64 x1, .int .i64 x2, .slice a3 n3 c3] 32) := hide (HoldV.next (show HoldV W w.heap.size _ _ from HB.out.2.1) hb1)
  have HZ1 : Hid (HoldV w1 (w.heap.size + 1) #[.int .i64 0, .int .i64 0, .int .i64 0, .slice none 0 0] 32) := hide (HoldV.next (show HoldV W (w.heap.size + 1) _ _ from HB.out.2.2) hb1)
  have HBE := hide (HB.out.1.trans (hb1.mono HB.out.1.size))
  clear hb1 HB HW
  have hal := (Below.refl w1.heap.size w1).alloc (Nat.le_refl _) (.cells #[.int .i64 0, .int .i64 0, .int .i64 0, .slice none 0 0] 32)
  have HN2 : Hid (HoldV (w1.alloc (.cells #[.int .i64 0, .int .i64 0, .int .i64 0, .slice none 0 0] 32)) w1.heap.size #[.int .i64 0, .int .i64 0, .int .i64 0, .slice none 0 0] 32) := hide (heap_alloc_new _ _)
  have HZ2 := hide (HZ1.out.next hal)
  have HBE2 := hide (HBE.out.trans (hal.mono HBE.out.size))
  generalize hV : w1.alloc (.cells #[.int .i64 0, .int .i64 0, .int .i64 0, .slice none 0 0] 32) = V at *
  clear hal
  have n0 := HN2.out.cell 0 _ rfl
  have n1 := HN2.out.cell 1 _ rfl
  have n2 := HN2.out.cell 2 _ rfl
  have n3 := HN2.out.cell 3 _ rfl
  have d0 := HZ2.out.cell 0 _ rfl
  have d1 := HZ2.out.cell 1 _ rfl
  have d2 := HZ2.out.cell 2 _ rfl
  have d3 := HZ2.out.cell 3 _ rfl
  have fz := HZ2.out.frozen
  go_wp2_with fail
  exact bodyPost_ret (v := .tuple #[.agg #[.int .i64 0, .int .i64 0, .int .i64 0, .slice none 0 0], .int .i64 c]) (by simp [results, Tryd.results34, go_sem, d0, d1, d2, d3]) rfl ⟨rfl, ((((HBE2.out.setCell (p := ⟨w.heap.size + 1, 0, none⟩) (Nat.le_succ _) _).setCell (p := ⟨w.heap.size + 1, 1, none⟩) (Nat.le_succ _) _).setCell (p := ⟨w.heap.size + 1, 2, none⟩) (Nat.le_succ _) _).setCell (p := ⟨w.heap.size + 1, 3, none⟩) (Nat.le_succ _) _)⟩

set_option maxHeartbeats 2000000 in
theorem ansQuote_nil (x0 : Int) (x1 : Int) (x2 : Int) (x3 : Int) (x4 : Int) (x5 : Int) (x6 : Int) (w : World) :
    Calls Tryd.prog 26 #[.agg #[.int .i64 x0, .int .i64 x1, .int .i64 x2, .int .i64 x3, .int .i64 x4, .int .i64 x5, .int .i64 x6], .nilIface] w fun e w' => e = .returned (.tuple #[.agg #[.int .i64 x0, .int .i64 x1, .int .i64 x2, .int .i64 x3, .int .i64 x4, .int .i64 x5, .int .i64 x6], .int .i64 0]) ∧ Below w.heap.size w w' := by
  have HB := hide (two_allocs w (.cells #[.int .i64 x0, .int .i64 x1, .int .i64 x2, .int .i64 x3, .int .i64 x4, .int .i64 x5, .int .i64 x6] 24) (.cells #[.int .i64 0, .int .i64 0, .int .i64 0, .int .i64 0, .int .i64 0, .int .i64 0, .int .i64 0] 24))
  generalize hW : (w.alloc (.cells #[.int .i64 x0, .int .i64 x1, .int .i64 x2, .int .i64 x3, .int .i64 x4, .int .i64 x5, .int .i64 x6] 24)).alloc (.cells #[.int .i64 0, .int .i64 0, .int .i64 0, .int .i64 0, .int .i64 0, .int .i64 0, .int .i64 0] 24) = W at *
  have HW := hide hW
  clear hW
  go_enter Tryd.func26, Tryd.ntmps26
  go_wp2_with fail
  rw [HW.out]
  refine (codeOf_nil _).mono ?_
  rintro e w1 ⟨rfl, hb1⟩
  have HV1 : Hid (HoldV w1 w.heap.size #[.int .i64 x0, .int .i64 x1, .int .i64 x2, .int .i64 x3, .int .i64 x4, .int .i64 x5, .int .i64 x6] 24) := hide (HoldV.next (show HoldV W w.heap.size _ _ from HB.out.2.1) hb1)
  have HZ1 : Hid (HoldV w1 (w.heap.size + 1) #[.int .i64 0, .int .i64 0, .int .i64 0, .int .i64 0, .int .i64 0, .int .i64 0, .int .i64 0] 24) := hide (HoldV.next (show HoldV W (w.heap.size + 1) _ _ from HB.out.2.2) hb1)
  have HBE := hide (HB.out.1.trans (hb1.mono HB.out.1.size))
  clear hb1 HB HW
  have k0 := HV1.out.cell 0 _ rfl
  have k1 := HV1.out.cell 1 _ rfl
  have k2 := HV1.out.cell 2 _ rfl
  have k3 := HV1.out.cell 3 _ rfl
  have k4 := HV1.out.cell 4 _ rfl
  have k5 := HV1.out.cell 5 _ rfl
  have k6 := HV1.out.cell 6 _ rfl
  have d0 := HZ1.out.cell 0 _ rfl
  have d1 := HZ1.out.cell 1 _ rfl
  have d2 := HZ1.out.cell 2 _ rfl
  have d3 := HZ1.out.cell 3 _ rfl
  have d4 := HZ1.out.cell 4 _ rfl
  have d5 := HZ1.out.cell 5 _ rfl
  have d6 := HZ1.out.cell 6 _ rfl
  have fz := HZ1.out.frozen
  go_wp2_with fail
  exact bodyPost_ret (v := .tuple #[.agg #[.int .i64 x0, .int .i64 x1, .int .i64 x2, .int .i64 x3, .int .i64 x4, .int .i64 x5, .int .i64 x6], .int .i64 0]) (by simp [results, Tryd.results26, go_sem, d0, d1, d2, d3, d4, d5, d6]) rfl ⟨rfl, (((((((HBE.out.setCell (p := ⟨w.heap.size + 1, 0, none⟩) (Nat.le_succ _) _).setCell (p := ⟨w.heap.size + 1, 1, none⟩) (Nat.le_succ _) _).setCell (p := ⟨w.heap.size + 1, 2, none⟩) (Nat.le_succ _) _).setCell (p := ⟨w.heap.size + 1, 3, none⟩) (Nat.le_succ _) _).setCell (p := ⟨w.heap.size + 1, 4, none⟩) (Nat.le_succ _) _).setCell (p := ⟨w.heap.size + 1, 5, none⟩) (Nat.le_succ _) _).setCell (p := ⟨w.heap.size + 1, 6, none⟩) (Nat.le_succ _) _)⟩
set_option maxHeartbeats 2000000 in
theorem ansQuote_err (x0 : Int) (x1 : Int) (x2 : Int) (x3 : Int) (x4 : Int) (x5 : Int) (x6 : Int) (c : Int) (hc0 : c ≠ 0) (w : World) (he : ErrT w) :
    Calls Tryd.prog 26 #[.agg #[.int .i64 x0, .int .i64 x1, .int .i64 x2, .int .i64 x3, .int .i64 x4, .int .i64 x5, .int .i64 x6], wErr c] w fun e w' => e = .returned (.tuple #[.agg #[.int .i64 0, .int .i64 0, .int .i64 0, .int .i64 0, .int .i64 0, .int .i64 0, .int .i64 0], .int .i64 c]) ∧ Below w.heap.size w w' := by
  have hcb : (c != 0) = true := by simpa using hc0
  clear hc0
  have HB := hide (two_allocs w (.cells #[.int .i64 x0, .int .i64 x1, .int .i64 x2, .int .i64 x3, .int .i64 x4, .int .i64 x5, .int .i64 x6] 24) (.cells #[.int .i64 0, .int .i64 0, .int .i64 0, .int .i64 0, .int .i64 0, .int .i64 0, .int .i64 0] 24))
  generalize hW : (w.alloc (.cells #[.int .i64 x0, .int .i64 x1, .int .i64 x2, .int .i64 x3, .int .i64 x4, .int .i64 x5, .int .i64 x6] 24)).alloc (.cells #[.int .i64 0, .int .i64 0, .int .i64 0, .int .i64 0, .int .i64 0, .int .i64 0, .int .i64 0] 24) = W at *
  have HW := hide hW
  clear hW
  go_enter Tryd.func26, Tryd.ntmps26
  go_wp2_with fail
  rw [HW.out]
  refine (codeOf_err c _ (he.below HB.out.1 (Nat.le_refl _))).mono ?_
  rintro e w1 ⟨rfl, hb1⟩
  have HV1 : Hid (HoldV w1 w.heap.size #[.int .i64 x0, .int .i64 x1, .int .i64 x2, .int .i64 x3, .int .i64 x4, .int .i64 x5, .int .i64 x6] 24) := hide (HoldV.next (show HoldV W w.heap.size _ _ from HB.out.2.1) hb1)
  have HZ1 : Hid (HoldV w1 (w.heap.size + 1) #[.int .i64 0, .int .i64 0, .int .i64 0, .int .i64 0, .int .i64 0, .int .i64 0, .int .i64 0] 24) := hide (HoldV.next (show HoldV W (w.heap.size + 1) _ _ from HB.out.2.2) hb1)
  have HBE := hide (HB.out.1.trans (hb1.mono HB.out.1.size))
  clear hb1 HB HW
  have hal := (Below.refl w1.heap.size w1).alloc (Nat.le_refl _) (.cells #[.int .i64 0, .int .i64 0, .int .i64 0, .int .i64 0, .int .i64 0, .int .i64 0, .int .i64 0] 24)
  have HN2 : Hid (HoldV (w1.alloc (.cells #[.int .i64 0, .int .i64 0, .int .i64 0, .int .i64 0, .int .i64 0, .int .i64 0, .int .i64 0] 24)) w1.heap.size #[.int .i64 0, .int .i64 0, .int .i64 0, .int .i64 0, .int .i64 0, .int .i64 0, .int .i64 0] 24) := hide (heap_alloc_new _ _)
  have HZ2 := hide (HZ1.out.next hal)
  have HBE2 := hide (HBE.out.trans (hal.mono HBE.out.size))
  generalize hV : w1.alloc (.cells #[.int .i64 0, .int .i64 0, .int .i64 0, .int .i64 0, .int .i64 0, .int .i64 0, .int .i64 0] 24) = V at *
  clear hal
  have n0 := HN2.out.cell 0 _ rfl
  have n1 := HN2.out.cell 1 _ rfl
  have n2 := HN2.out.cell 2 _ rfl
  have n3 := HN2.out.cell 3 _ rfl
  have n4 := HN2.out.cell 4 _ rfl
  have n5 := HN2.out.cell 5 _ rfl
  have n6 := HN2.out.cell 6 _ rfl
  have d0 := HZ2.out.cell 0 _ rfl
  have d1 := HZ2.out.cell 1 _ rfl
  have d2 := HZ2.out.cell 2 _ rfl
  have d3 := HZ2.out.cell 3 _ rfl
  have d4 := HZ2.out.cell 4 _ rfl
  have d5 := HZ2.out.cell 5 _ rfl
  have d6 := HZ2.out.cell 6 _ rfl
  have fz := HZ2.out.frozen
  go_wp2_with fail
  exact bodyPost_ret (v := .tuple #[.agg #[.int .i64 0, .int .i64 0, .int .i64 0, .int .i64 0, .int .i64 0, .int .i64 0, .int .i64 0], .int .i64 c]) (by simp [results, Tryd.results26, go_sem, d0, d1, d2, d3, d4, d5, d6]) rfl ⟨rfl, (((((((HBE2.out.setCell (p := ⟨w.heap.size + 1, 0, none⟩) (Nat.le_succ _) _).setCell (p := ⟨w.heap.size + 1, 1, none⟩) (Nat.le_succ _) _).setCell (p := ⟨w.heap.size + 1, 2, none⟩) (Nat.le_succ _) _).setCell (p := ⟨w.heap.size + 1, 3, none⟩) (Nat.le_succ _) _).setCell (p := ⟨w.heap.size + 1, 4, none⟩) (Nat.le_succ _) _).setCell (p := ⟨w.heap.size + 1, 5, none⟩) (Nat.le_succ _) _).setCell (p := ⟨w.heap.size + 1, 6, none⟩) (Nat.le_succ _) _)⟩

set_option maxHeartbeats 2000000 in
theorem ansPacket_nil (x0 : Int) (x1 : Int) (x2 : Bool) (x3 : Bool) (x4 : Int) (x5 : Int) (x6 : Int) (x7 : Int) (x8 : Int) (a9 : Option Addr) (n9 c9 : Nat) (a10 : Option Addr) (n10 c10 : Nat) (w : World) :
    Calls Tryd.prog 37 #[.agg #[.int .i64 x0, .int .i64 x1, .bool x2, .bool x3, .int .i64 x4, .int .i64 x5, .int .i64 x6, .int .i64 x7, .int .i64 x8, .slice a9 n9 c9, .slice a10 n10 c10], .nilIface] w fun e w' => e = .returned (.tuple #[.agg #[.int .i64 x0, .int .i64 x1, .bool x2, .bool x3, .int .i64 x4, .int .i64 x5, .int .i64 x6, .int .i64 x7, .int .i64 x8, .slice a9 n9 c9, .slice a10 n10 c10], .int .i64 0]) ∧ Below w.heap.size w w' := by
  have HB := hide (two_allocs w (.cells #[.int .i64 x0, .int .i64 x1, .bool x2, .bool x3, .int .i64 x4, .int .i64 x5, .int .i64 x6, .int .i64 x7, .int .i64 x8, .slice a9 n9 c9, .slice a10 n10 c10] 39) (.cells #[.int .i64 0, .int .i64 0, .bool false, .bool false, .int .i64 0, .int .i64 0, .int .i64 0, .int .i64 0, .int .i64 0, .slice none 0 0, .slice none 0 0] 39))
  generalize hW : (w.alloc (.cells #[.int .i64 x0, .int .i64 x1, .bool x2, .bool x3, .int .i64 x4, .int .i64 x5, .int .i64 x6, .int .i64 x7, .int .i64 x8, .slice a9 n9 c9, .slice a10 n10 c10] 39)).alloc (.cells #[.int .i64 0, .int .i64 0, .bool false, .bool false, .int .i64 0, .int .i64 0, .int .i64 0, .int .i64 0, .int .i64 0, .slice none 0 0, .slice none 0 0] 39) = W at *
  have HW := hide hW
  clear hW
  go_enter Tryd.func37, Tryd.ntmps37
  go_wp2_with fail
  rw [HW.out]
  refine (codeOf_nil _).mono ?_
  rintro e w1 ⟨rfl, hb1⟩
  have HV1 : Hid (HoldV w1 w.heap.size #[.int .i64 x0, .int .i64 x1, .bool x2, .bool x3, .int .i64 x4, .int .i64 x5, .int .i64 x6, .int .i64 x7, .int .i64 x8, .slice a9 n9 c9, .slice a10 n10 c10] 39) := hide (HoldV.next (show HoldV W w.heap.size _ _ from HB.out.2.1) hb1)
  have HZ1 : Hid (HoldV w1 (w.heap.size + 1) #[.int .i64 0, .int .i64 0, .bool false, .bool false, .int .i64 0, .int .i64 0, .int .i64 0, .int .i64 0, .int .i64 0, .slice none 0 0, .slice none 0 0] 39) := hide (HoldV.next (show HoldV W (w.heap.size + 1) _ _ from HB.out.2.2) hb1)
  have HBE := hide (HB.out.1.trans (hb1.mono HB.out.1.size))
  clear hb1 HB HW
  have k0 := HV1.out.cell 0 _ rfl
  have k1 := HV1.out.cell 1 _ rfl
  have k2 := HV1.out.cell 2 _ rfl
  have k3 := HV1.out.cell 3 _ rfl
  have k4 := HV1.out.cell 4 _ rfl
  have k5 := HV1.out.cell 5 _ rfl
  have k6 := HV1.out.cell 6 _ rfl
  have k7 := HV1.out.cell 7 _ rfl
  have k8 := HV1.out.cell 8 _ rfl
  have k9 := HV1.out.cell 9 _ rfl
  have k10 := HV1.out.cell 10 _ rfl
  have d0 := HZ1.out.cell 0 _ rfl
  have d1 := HZ1.out.cell 1 _ rfl
  have d2 := HZ1.out.cell 2 _ rfl
  have d3 := HZ1.out.cell 3 _ rfl
  have d4 := HZ1.out.cell 4 _ rfl
  have d5 := HZ1.out.cell 5 _ rfl
  have d6 := HZ1.out.cell 6 _ rfl
  have d7 := HZ1.out.cell 7 _ rfl
  have d8 := HZ1.out.cell 8 _ rfl
  have d9 := HZ1.out.cell 9 _ rfl
  have d10 := HZ1.out.cell 10 _ rfl
  have fz := HZ1.out.frozen
  go_wp2_with fail
  exact bodyPost_ret (v := .tuple #[.agg #[.int .i64 x0, .int .i64 x1, .bool x2, .bool x3, .int .i64 x4, .int .i64 x5, .int .i64 x6, .int .i64 x7, .int .i64 x8, .slice a9 n9 c9, .slice a10 n10 c10], .int .i64 0]) (by simp [results, Tryd.results37, go_sem, d0, d1, d2, d3, d4, d5, d6, d7, d8, d9, d10]) rfl ⟨rfl, (((((((((((HBE.out.setCell (p := ⟨w.heap.size + 1, 0, none⟩) (Nat.le_succ _) _).setCell (p := ⟨w.heap.size + 1, 1, none⟩) (Nat.le_succ _) _).setCell (p := ⟨w.heap.size + 1, 2, none⟩) (Nat.le_succ _) _).setCell (p := ⟨w.heap.size + 1, 3, none⟩) (Nat.le_succ _) _).setCell (p := ⟨w.heap.size + 1, 4, none⟩) (Nat.le_succ _) _).setCell (p := ⟨w.heap.size + 1, 5, none⟩) (Nat.le_succ _) _).setCell (p := ⟨w.heap.size + 1, 6, none⟩) (Nat.le_succ _) _).setCell (p := ⟨w.heap.size + 1, 7, none⟩) (Nat.le_succ _) _).setCell (p := ⟨w.heap.size + 1, 8, none⟩) (Nat.le_succ _) _).setCell (p := ⟨w.heap.size + 1, 9, none⟩) (Nat.le_succ _) _).setCell (p := ⟨w.heap.size + 1, 10, none⟩) (Nat.le_succ _) _)⟩
set_option maxHeartbeats 2000000 in
theorem ansPacket_err (x0 : Int) (x1 : Int) (x2 : Bool) (x3 : Bool) (x4 : Int) (x5 : Int) (x6 : Int) (x7 : Int) (x8 : Int) (a9 : Option Addr) (n9 c9 : Nat) (a10 : Option Addr) (n10 c10 : Nat) (c : Int) (hc0 : c ≠ 0) (w : World) (he : ErrT w) :
    Calls Tryd.prog 37 #[.agg #[.int .i64 x0, .int .i64 x1, .bool x2, .bool x3, .int .i64 x4, .int .i64 x5, .int .i64 x6, .int .i64 x7, .int .i64 x8, .slice a9 n9 c9, .slice a10 n10 c10], wErr c] w fun e w' => e = .returned (.tuple #[.agg #[.int .i64 0, .int .i64 0, .bool false, .bool false, .int .i64 0, .int .i64 0, .int .i64 0, .int .i64 0, .int .i64 0, .slice none 0 0, .slice none 0 0], .int .i64 c]) ∧ Below w.heap.size w w' := by
  have hcb : (c != 0) = true := by simpa using hc0
  clear hc0
  have HB := hide (two_allocs w (.cells #[.int .i64 x0, .int .i64 x1, .bool x2, .bool x3, .int .i64 x4, .int .i64 x5, .int .i64 x6, .int .i64 x7, .int .i64 x8, .slice a9 n9 c9, .slice a10 n10 c10] 39) (.cells #[.int .i64 0, .int .i64 0, .bool false, .bool false, .int .i64 0, .int .i64 0, .int .i64 0, .int .i64 0, .int .i64 0, .slice none 0 0, .slice none 0 0] 39))
  generalize hW : (w.alloc (.cells #[.int .i64 x0, .int .i64 x1, .bool x2, .bool x3, .int .i64 x4, .int .i64 x5, .int .i64 x6, .int .i64 x7, .int .i64 x8, .slice a9 n9 c9, .slice a10 n10 c10] 39)).alloc (.cells #[.int .i64 0, .int .i64 0, .bool false, .bool false, .int .i64 0, .int .i64 0, .int .i64 0, .int .i64 0, .int .i64 0, .slice none 0 0, .slice none 0 0] 39) = W at *
  have HW := hide hW
  clear hW
  go_enter Tryd.func37, Tryd.ntmps37
  go_wp2_with fail
  rw [HW.out]
  refine (codeOf_err c _ (he.below HB.out.1 (Nat.le_refl _))).mono ?_
  rintro e w1 ⟨rfl, hb1⟩
  have HV1 : Hid (HoldV w1 w.heap.size #[.int .i64 x0, .int .i64 x1, .bool x2, .bool x3, .int .i64 x4, .int .i64 x5, .int .i64 x6, .int .i64 x7, .int .i64 x8, .slice a9 n9 c9, .slice a10 n10 c10] 39) := hide (HoldV.next (show HoldV W w.heap.size _ _ from HB.out.2.1) hb1)
  have HZ1 : Hid (HoldV w1 (w.heap.size + 1) #[.int .i64 0, .int .i64 0, .bool false, .bool false, .int .i64 0, .int .i64 0, .int .i64 0, .int .i64 0, .int .i64 0, .slice none 0 0, .slice none 0 0] 39) := hide (HoldV.next (show HoldV W (w.heap.size + 1) _ _ from HB.out.2.2) hb1)
  have HBE := hide (HB.out.1.trans (hb1.mono HB.out.1.size))
  clear hb1 HB HW
  have hal := (Below.refl w1.heap.size w1).alloc (Nat.le_refl _) (.cells #[.int .i64 0, .int .i64 0, .bool false, .bool false, .int .i64 0, .int .i64 0, .int .i64 0, .int .i64 0, .int .i64 0, .slice none 0 0, .slice none 0 0] 39)
  have HN2 : Hid (HoldV (w1.alloc (.cells #[.int .i64 0, .int .i64 0, .bool false, .bool false, .int .i64 0, .int .i64 0, .int .i64 0, .int .i64 0, .int .i64 0, .slice none 0 0, .slice none 0 0] 39)) w1.heap.size #[.int .i64 0, .int .i64 0, .bool false, .bool false, .int .i64 0, .int .i64 0, .int .i64 0, .int .i64 0, .int .i64 0, .slice none 0 0, .slice none 0 0] 39) := hide (heap_alloc_new _ _)
  have HZ2 := hide (HZ1.out.next hal)
  have HBE2 := hide (HBE.out.trans (hal.mono HBE.out.size))
  generalize hV : w1.alloc (.cells #[.int .i64 0, .int .i64 0, .bool false, .bool false, .int .i64 0, .int .i64 0, .int .i64 0, .int .i64 0, .int .i64 0, .slice none 0 0, .slice none 0 0] 39) = V at *
  clear hal
  have n0 := HN2.out.cell 0 _ rfl
  have n1 := HN2.out.cell 1 _ rfl
  have n2 := HN2.out.cell 2 _ rfl
  have n3 := HN2.out.cell 3 _ rfl
  have n4 := HN2.out.cell 4 _ rfl
  have n5 := HN2.out.cell 5 _ rfl
  have n6 := HN2.out.cell 6 _ rfl
  have n7 := HN2.out.cell 7 _ rfl
  have n8 := HN2.out.cell 8 _ rfl
  have n9 := HN2.out.cell 9 _ rfl
  have n10 := HN2.out.cell 10 _ rfl
  have d0 := HZ2.out.cell 0 _ rfl
  have d1 := HZ2.out.cell 1 _ rfl
  have d2 := HZ2.out.cell 2 _ rfl
  have d3 := HZ2.out.cell 3 _ rfl
  have d4 := HZ2.out.cell 4 _ rfl
  have d5 := HZ2.out.cell 5 _ rfl
  have d6 := HZ2.out.cell 6 _ rfl
  have d7 := HZ2.out.cell 7 _ rfl
  have d8 := HZ2.out.cell 8 _ rfl
  have d9 := HZ2.out.cell 9 _ rfl
  have d10 := HZ2.out.cell 10 _ rfl
  have fz := HZ2.out.frozen
  go_wp2_with fail
  exact bodyPost_ret (v := .tuple #[.agg #[.int .i64 0, .int .i64 0, .bool false, .bool false, .int .i64 0, .int .i64 0, .int .i64 0, .int .i64 0, .int .i64 0, .slice none 0 0, .slice none 0 0], .int .i64 c]) (by simp [results, Tryd.results37, go_sem, d0, d1, d2, d3, d4, d5, d6, d7, d8, d9, d10]) rfl ⟨rfl, (((((((((((HBE2.out.setCell (p := ⟨w.heap.size + 1, 0, none⟩) (Nat.le_succ _) _).setCell (p := ⟨w.heap.size + 1, 1, none⟩) (Nat.le_succ _) _).setCell (p := ⟨w.heap.size + 1, 2, none⟩) (Nat.le_succ _) _).setCell (p := ⟨w.heap.size + 1, 3, none⟩) (Nat.le_succ _) _).setCell (p := ⟨w.heap.size + 1, 4, none⟩) (Nat.le_succ _) _).setCell (p := ⟨w.heap.size + 1, 5, none⟩) (Nat.le_succ _) _).setCell (p := ⟨w.heap.size + 1, 6, none⟩) (Nat.le_succ _) _).setCell (p := ⟨w.heap.size + 1, 7, none⟩) (Nat.le_succ _) _).setCell (p := ⟨w.heap.size + 1, 8, none⟩) (Nat.le_succ _) _).setCell (p := ⟨w.heap.size + 1, 9, none⟩) (Nat.le_succ _) _).setCell (p := ⟨w.heap.size + 1, 10, none⟩) (Nat.le_succ _) _)⟩
end Go.Proofs.YtakoagfeiolkjaaDoor
