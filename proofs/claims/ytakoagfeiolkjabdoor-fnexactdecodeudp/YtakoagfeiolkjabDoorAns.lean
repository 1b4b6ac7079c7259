/-
Contracts of functions of this seat.
-/
import Derived.Test.YtakoagfeiolkjabDoorRows
import Derived.WalkKit
import Derived.ProofKit
import Derived.OpenShut
import Derived.Test.YtakoagfeiolkjabDoorAsm
import Derived.Test.YtakoagfeiolkjabDoorCur
import Derived.Test.YtakoagfeiolkjabDoorStp
namespace Go.Proofs.YtakoagfeiolkjabDoor
open Go.ChangeShapes Go.WideShapes Go.ChangeAt Go.RowKit
set_option linter.unusedVariables false
set_option maxRecDepth 100000
/-- A box laid at the world's end, and kept. -/
def BoxV (w W : World) (vs : Array Value) (T : Nat) : Prop := Below w.heap.size w W ∧ w.heap.size < W.heap.size ∧ W.heap[w.heap.size]? = some (.cells vs T)
theorem BoxV.start (w : World) (vs : Array Value) (T : Nat) : BoxV w (w.alloc (.cells vs T)) vs T :=
  ⟨(Below.refl _ _).alloc (Nat.le_refl _) _, by rw [World.size_alloc]; omega, heap_alloc_new _ _⟩
theorem BoxV.next {w W W' : World} {vs : Array Value} {T : Nat} (h : BoxV w W vs T) (hb : Below W.heap.size W W') : BoxV w W' vs T :=
  ⟨h.1.trans (hb.mono (Nat.le_of_lt h.2.1)), Nat.lt_of_lt_of_le h.2.1 hb.size, (hb.block _ h.2.1).trans h.2.2⟩
theorem BoxV.keep {w W W' : World} {vs : Array Value} {T B : Nat} (h : BoxV w W vs T) (hb : Below B W W') (hB : w.heap.size < B) : BoxV w W' vs T :=
  ⟨h.1.trans (hb.mono (Nat.le_of_lt hB)), Nat.lt_of_lt_of_le h.2.1 hb.size, (hb.block _ hB).trans h.2.2⟩
def HoldV (w : World) (H : Nat) (vs : Array Value) (T : Nat) : Prop := w.heap[H]? = some (.cells vs T)
theorem HoldV.lt {w : World} {H T : Nat} {vs : Array Value} (h : HoldV w H vs T) : H < w.heap.size := (Array.getElem?_eq_some_iff.1 h).1
theorem HoldV.below {w w' : World} {H T B : Nat} {vs : Array Value} (h : HoldV w H vs T) (hb : Below B w w') (hB : H < B) : HoldV w' H vs T := (hb.block H hB).trans h
theorem HoldV.next {w w' : World} {H T : Nat} {vs : Array Value} (h : HoldV w H vs T) (hb : Below w.heap.size w w') : HoldV w' H vs T := h.below hb h.lt
theorem HoldV.cell {w : World} {H T : Nat} {vs : Array Value} (h : HoldV w H vs T) (i : Nat) (v : Value) (hv : vs[i]? = some v) : w.cell? ⟨H, i, none⟩ = some v := (cell_of_row _ _ _ _ _ _ h).trans hv
theorem HoldV.frozen {w : World} {H T : Nat} {vs : Array Value} (h : HoldV w H vs T) (o : Nat) : w.frozen? ⟨H, o, none⟩ = false := frozen_of_row w H o _ _ h
theorem two_allocs (w : World) (o1 o2 : Obj) : Below w.heap.size w ((w.alloc o1).alloc o2) ∧ ((w.alloc o1).alloc o2).heap[w.heap.size]? = some o1 ∧ ((w.alloc o1).alloc o2).heap[w.heap.size + 1]? = some o2 := by
  have s1 := World.size_alloc w o1
  refine ⟨((Below.refl _ _).alloc (Nat.le_refl _) _).alloc (by omega) _, ?_, ?_⟩
  · rw [((Below.refl (w.alloc o1).heap.size _).alloc (Nat.le_refl _) o2).block w.heap.size (by omega)]; exact heap_alloc_new _ _
  · rw [← s1]; exact heap_alloc_new _ _
theorem BoxV.cell {w W : World} {vs : Array Value} {T : Nat} (h : BoxV w W vs T) (i : Nat) (v : Value) (hv : vs[i]? = some v) : W.cell? ⟨w.heap.size, i, none⟩ = some v := cell_of_row _ _ _ _ _ _ h.2.2 |>.trans hv
theorem lt_cell {w : World} {b i : Nat} {v : Value} (h : w.cell? ⟨b, i, none⟩ = some v) : b < w.heap.size := by
  rcases Nat.lt_or_ge b w.heap.size with h' | h'
  · exact h'
  · simp [World.cell?, Array.getElem?_eq_none h'] at h

set_option maxHeartbeats 2000000 in
theorem ansB_nil (a : Option Addr) (n cap : Nat) (w : World) :
    Calls Tryd.prog 45 #[.slice a n cap, .nilIface] w fun e w' => e = .returned (.tuple #[.slice a n cap, .int .i64 0]) ∧ Below w.heap.size w w' := by
  go_enter Tryd.func45, Tryd.ntmps45
  go_wp2_with fail
  refine (codeOf_nil w).mono ?_
  rintro e w1 ⟨rfl, hb1⟩
  go_wp2_with fail
  go_ret2
  exact ⟨rfl, hb1⟩
set_option maxHeartbeats 2000000 in
theorem ansB_err (a : Option Addr) (n cap : Nat) (c : Int) (hc0 : c ≠ 0) (w : World) (he : ErrT w) :
    Calls Tryd.prog 45 #[.slice a n cap, wErr c] w fun e w' => e = .returned (.tuple #[.slice none 0 0, .int .i64 c]) ∧ Below w.heap.size w w' := by
  have hcb : (c != 0) = true := by simpa using hc0
  clear hc0
  go_enter Tryd.func45, Tryd.ntmps45
  go_wp2_with fail
  refine (codeOf_err c w he).mono ?_
  rintro e w1 ⟨rfl, hb1⟩
  go_wp2_with fail
  go_ret2
  exact ⟨rfl, hb1⟩
end Go.Proofs.YtakoagfeiolkjabDoor
