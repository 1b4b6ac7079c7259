/-
Contracts of functions of this seat.
-/
import Derived.Test.YtjojeplffefnpaaRows
import Derived.WalkKit
import Derived.ProofKit
import Derived.OpenShut
import Derived.Test.YtjojeplffefnpaaIpf
import Derived.Test.YtjojeplffefnpaaSti
namespace Go.Proofs.Ytjojeplffefnpaa
open Go.ChangeShapes Go.WideShapes Go.ChangeAt Go.RowKit
set_option linter.unusedVariables false
set_option maxRecDepth 100000
/-- A box laid at the world's end, and kept. -/
def BoxV (w W : World) (vs : Array Value) (T : Nat) : Prop := Below w.heap.size w W ∧ w.heap.size < W.heap.size ∧ W.heap[w.heap.size]? = some (.cells vs T)
theorem BoxV.start (w : World) (vs : Array Value) (T : Nat) : BoxV w (w.alloc (.cells vs T)) vs T :=
  ⟨(Below.refl _ _).alloc (Nat.le_refl _) _, by rw [World.size_alloc]; omega, heap_alloc_new _ _⟩
theorem BoxV.next {w W W' : World} {vs : Array Value} {T : Nat} (h : BoxV w W vs T) (hb : Below W.heap.size W W') : BoxV w W' vs T :=
  ⟨h.1.trans (hb.mono (Nat.le_of_lt h.2.1)), Nat.lt_of_lt_of_le h.2.1 hb.size, (hb.block _ h.2.1).trans h.2.2⟩
theorem BoxV.keep {w W W' : World} {vs : Array Value} {T B : Nat} (h : BoxV w W vs T) (hb : Below B W W') (hB : w.heap.size < B) : BoxV w W' vs T :=
  ⟨h.1.trans (hb.mono (Nat.le_of_lt hB)), Nat.lt_of_lt_of_le h.2.1 hb.size, (hb.block _ hB).trans h.2.2⟩
def HoldV (w : World) (H : Nat) (vs : Array Value) (T : Nat) : Prop := w.heap[H]? = some (.cells vs T)
theorem HoldV.lt {w : World} {H T : Nat} {vs : Array Value} (h : HoldV w H vs T) : H < w.heap.size := (Array.getElem?_eq_some_iff.1 h).1
theorem HoldV.below {w w' : World} {H T B : Nat} {vs : Array Value} (h : HoldV w H vs T) (hb : Below B w w') (hB : H < B) : HoldV w' H vs T := (hb.block H hB).trans h
theorem HoldV.next {w w' : World} {H T : Nat} {vs : Array Value} (h : HoldV w H vs T) (hb : Below w.heap.size w w') : HoldV w' H vs T := h.below hb h.lt
theorem HoldV.cell {w : World} {H T : Nat} {vs : Array Value} (h : HoldV w H vs T) (i : Nat) (v : Value) (hv : vs[i]? = some v) : w.cell? ⟨H, i, none⟩ = some v := (cell_of_row _ _ _ _ _ _ h).trans hv
theorem HoldV.frozen {w : World} {H T : Nat} {vs : Array Value} (h : HoldV w H vs T) (o : Nat) : w.frozen? ⟨H, o, none⟩ = false := frozen_of_row w H o _ _ h
theorem two_allocs (w : World) (o1 o2 : Obj) : Below w.heap.size w ((w.alloc o1).alloc o2) ∧ ((w.alloc o1).alloc o2).heap[w.heap.size]? = some o1 ∧ ((w.alloc o1).alloc o2).heap[w.heap.size + 1]? = some o2 := by
  have s1 := World.size_alloc w o1
  refine ⟨((Below.refl _ _).alloc (Nat.le_refl _) _).alloc (by omega) _, ?_, ?_⟩
  · rw [((Below.refl (w.alloc o1).heap.size _).alloc (Nat.le_refl _) o2).block w.heap.size (by omega)]; exact heap_alloc_new _ _
  · rw [← s1]; exact heap_alloc_new _ _
theorem BoxV.cell {w W : World} {vs : Array Value} {T : Nat} (h : BoxV w W vs T) (i : Nat) (v : Value) (hv : vs[i]? = some v) : W.cell? ⟨w.heap.size, i, none⟩ = some v := cell_of_row _ _ _ _ _ _ h.2.2 |>.trans hv
theorem lt_cell {w : World} {b i : Nat} {v : Value} (h : w.cell? ⟨b, i, none⟩ = some v) : b < w.heap.size := by
  rcases Nat.lt_or_ge b w.heap.size with h' | h'
  · exact h'
  · simp [World.cell?, Array.getElem?_eq_none h'] at h

theorem fits4_walk (x : Int) (w : World) : Calls Try.prog 78 #[.int .i64 4, .int .i64 x] w fun e w' => e = .returned (.bool (inB x 0 4294967295)) ∧ w' = w := by
  go_enter Try.func78, Try.ntmps78
  go_wp2
  go_ret
  exact ⟨ret_bool (fits_eq x 4294967296 4294967295 (by omega) (by omega)), rfl⟩
/-- The message of an Icmp, behind its interface. -/
def msgV (t c r : Int) (v : Value) : Value :=
  if t = 8 then .iface 133 (.agg #[.int .i64 c, .int .i64 r, v])
  else if t = 0 then .iface 134 (.agg #[.int .i64 c, .int .i64 r, v])
  else if t = 3 then .iface 135 (.agg #[.int .i64 c, .int .i64 r, v])
  else if t = 11 then .iface 136 (.agg #[.int .i64 c, .int .i64 r, v])
  else .iface 138 (.agg #[.int .i64 t, .int .i64 c, .int .i64 r, v])
def aboutN (t : Int) : Int := if t = 8 then 1 else if t = 0 then 1 else if t = 3 then 2 else if t = 11 then 2 else 0
set_option maxHeartbeats 4000000 in
theorem messageOf_walk (t c r : Int) (a : Option Addr) (n cap : Nat) (w : World) : Calls Try.prog 85 #[.agg #[.int .i64 t, .int .i64 c, .int .i64 r, .slice a n cap]] w fun e w' => e = .returned (msgV t c r (.slice a n cap)) ∧ Below w.heap.size w w' := by
  by_cases h1 : t = 8
  · subst h1
    go_enter Try.func85, Try.ntmps85
    go_wp2
    go_ret
    exact ⟨rfl, (two_allocs w _ _).1⟩
  by_cases h2 : t = 0
  · subst h2
    go_enter Try.func85, Try.ntmps85
    go_wp2
    go_ret
    exact ⟨rfl, (two_allocs w _ _).1⟩
  by_cases h3 : t = 3
  · subst h3
    go_enter Try.func85, Try.ntmps85
    go_wp2
    go_ret
    exact ⟨rfl, (two_allocs w _ _).1⟩
  by_cases h4 : t = 11
  · subst h4
    go_enter Try.func85, Try.ntmps85
    go_wp2
    go_ret
    exact ⟨rfl, (two_allocs w _ _).1⟩
  have E : Hid (msgV t c r (.slice a n cap) = .iface 138 (.agg #[.int .i64 t, .int .i64 c, .int .i64 r, .slice a n cap])) := hide (by unfold msgV; rw [if_neg h1, if_neg h2, if_neg h3, if_neg h4])
  rw [E.out]
  go_enter Try.func85, Try.ntmps85
  go_wp2
  go_ret
  exact ⟨rfl, (two_allocs w _ _).1⟩
theorem ta_echo_echo (V : Value) (w : World) : (Instr.typeAssert (.iface 133 V) 113 133 true).run Try.prog w = .ok (.tuple #[V, .bool true]) w := by kernel_rfl
theorem ta_echo_echoReply (V : Value) (w : World) : (Instr.typeAssert (.iface 133 V) 113 134 true).run Try.prog w = .ok (.tuple #[.agg #[.int .i64 0, .int .i64 0, .slice none 0 0], .bool false]) w := by kernel_rfl
theorem ta_echo_unreachable (V : Value) (w : World) : (Instr.typeAssert (.iface 133 V) 113 135 true).run Try.prog w = .ok (.tuple #[.agg #[.int .i64 0, .int .i64 0, .slice none 0 0], .bool false]) w := by kernel_rfl
theorem ta_echo_exceeded (V : Value) (w : World) : (Instr.typeAssert (.iface 133 V) 113 136 true).run Try.prog w = .ok (.tuple #[.agg #[.int .i64 0, .int .i64 0, .slice none 0 0], .bool false]) w := by kernel_rfl
theorem ta_echoReply_echo (V : Value) (w : World) : (Instr.typeAssert (.iface 134 V) 113 133 true).run Try.prog w = .ok (.tuple #[.agg #[.int .i64 0, .int .i64 0, .slice none 0 0], .bool false]) w := by kernel_rfl
theorem ta_echoReply_echoReply (V : Value) (w : World) : (Instr.typeAssert (.iface 134 V) 113 134 true).run Try.prog w = .ok (.tuple #[V, .bool true]) w := by kernel_rfl
theorem ta_echoReply_unreachable (V : Value) (w : World) : (Instr.typeAssert (.iface 134 V) 113 135 true).run Try.prog w = .ok (.tuple #[.agg #[.int .i64 0, .int .i64 0, .slice none 0 0], .bool false]) w := by kernel_rfl
theorem ta_echoReply_exceeded (V : Value) (w : World) : (Instr.typeAssert (.iface 134 V) 113 136 true).run Try.prog w = .ok (.tuple #[.agg #[.int .i64 0, .int .i64 0, .slice none 0 0], .bool false]) w := by kernel_rfl
theorem ta_unreachable_echo (V : Value) (w : World) : (Instr.typeAssert (.iface 135 V) 113 133 true).run Try.prog w = .ok (.tuple #[.agg #[.int .i64 0, .int .i64 0, .slice none 0 0], .bool false]) w := by kernel_rfl
theorem ta_unreachable_echoReply (V : Value) (w : World) : (Instr.typeAssert (.iface 135 V) 113 134 true).run Try.prog w = .ok (.tuple #[.agg #[.int .i64 0, .int .i64 0, .slice none 0 0], .bool false]) w := by kernel_rfl
theorem ta_unreachable_unreachable (V : Value) (w : World) : (Instr.typeAssert (.iface 135 V) 113 135 true).run Try.prog w = .ok (.tuple #[V, .bool true]) w := by kernel_rfl
theorem ta_unreachable_exceeded (V : Value) (w : World) : (Instr.typeAssert (.iface 135 V) 113 136 true).run Try.prog w = .ok (.tuple #[.agg #[.int .i64 0, .int .i64 0, .slice none 0 0], .bool false]) w := by kernel_rfl
theorem ta_exceeded_echo (V : Value) (w : World) : (Instr.typeAssert (.iface 136 V) 113 133 true).run Try.prog w = .ok (.tuple #[.agg #[.int .i64 0, .int .i64 0, .slice none 0 0], .bool false]) w := by kernel_rfl
theorem ta_exceeded_echoReply (V : Value) (w : World) : (Instr.typeAssert (.iface 136 V) 113 134 true).run Try.prog w = .ok (.tuple #[.agg #[.int .i64 0, .int .i64 0, .slice none 0 0], .bool false]) w := by kernel_rfl
theorem ta_exceeded_unreachable (V : Value) (w : World) : (Instr.typeAssert (.iface 136 V) 113 135 true).run Try.prog w = .ok (.tuple #[.agg #[.int .i64 0, .int .i64 0, .slice none 0 0], .bool false]) w := by kernel_rfl
theorem ta_exceeded_exceeded (V : Value) (w : World) : (Instr.typeAssert (.iface 136 V) 113 136 true).run Try.prog w = .ok (.tuple #[V, .bool true]) w := by kernel_rfl
theorem ta_foreign_echo (V : Value) (w : World) : (Instr.typeAssert (.iface 138 V) 113 133 true).run Try.prog w = .ok (.tuple #[.agg #[.int .i64 0, .int .i64 0, .slice none 0 0], .bool false]) w := by kernel_rfl
theorem ta_foreign_echoReply (V : Value) (w : World) : (Instr.typeAssert (.iface 138 V) 113 134 true).run Try.prog w = .ok (.tuple #[.agg #[.int .i64 0, .int .i64 0, .slice none 0 0], .bool false]) w := by kernel_rfl
theorem ta_foreign_unreachable (V : Value) (w : World) : (Instr.typeAssert (.iface 138 V) 113 135 true).run Try.prog w = .ok (.tuple #[.agg #[.int .i64 0, .int .i64 0, .slice none 0 0], .bool false]) w := by kernel_rfl
theorem ta_foreign_exceeded (V : Value) (w : World) : (Instr.typeAssert (.iface 138 V) 113 136 true).run Try.prog w = .ok (.tuple #[.agg #[.int .i64 0, .int .i64 0, .slice none 0 0], .bool false]) w := by kernel_rfl
set_option maxHeartbeats 4000000 in
theorem aboutWhat_walk (t c r : Int) (v : Value) (w : World) : Calls Try.prog 84 #[msgV t c r v] w fun e w' => e = .returned (.int .i64 (aboutN t)) ∧ w' = w := by
  by_cases h8 : t = 8
  · subst h8
    show Calls Try.prog 84 #[.iface 133 (.agg #[.int .i64 c, .int .i64 r, v])] w fun e w' => e = .returned (.int .i64 1) ∧ w' = w
    have a0 := ta_echo_echo
    have a1 := ta_echo_echoReply
    have a2 := ta_echo_unreachable
    have a3 := ta_echo_exceeded
    go_enter Try.func84, Try.ntmps84
    go_wp2
    go_ret
    exact ⟨rfl, rfl⟩
  by_cases h0 : t = 0
  · subst h0
    show Calls Try.prog 84 #[.iface 134 (.agg #[.int .i64 c, .int .i64 r, v])] w fun e w' => e = .returned (.int .i64 1) ∧ w' = w
    have a0 := ta_echoReply_echo
    have a1 := ta_echoReply_echoReply
    have a2 := ta_echoReply_unreachable
    have a3 := ta_echoReply_exceeded
    go_enter Try.func84, Try.ntmps84
    go_wp2
    go_ret
    exact ⟨rfl, rfl⟩
  by_cases h3 : t = 3
  · subst h3
    show Calls Try.prog 84 #[.iface 135 (.agg #[.int .i64 c, .int .i64 r, v])] w fun e w' => e = .returned (.int .i64 2) ∧ w' = w
    have a0 := ta_unreachable_echo
    have a1 := ta_unreachable_echoReply
    have a2 := ta_unreachable_unreachable
    have a3 := ta_unreachable_exceeded
    go_enter Try.func84, Try.ntmps84
    go_wp2
    go_ret
    exact ⟨rfl, rfl⟩
  by_cases h11 : t = 11
  · subst h11
    show Calls Try.prog 84 #[.iface 136 (.agg #[.int .i64 c, .int .i64 r, v])] w fun e w' => e = .returned (.int .i64 2) ∧ w' = w
    have a0 := ta_exceeded_echo
    have a1 := ta_exceeded_echoReply
    have a2 := ta_exceeded_unreachable
    have a3 := ta_exceeded_exceeded
    go_enter Try.func84, Try.ntmps84
    go_wp2
    go_ret
    exact ⟨rfl, rfl⟩
  have E : msgV t c r v = .iface 138 (.agg #[.int .i64 t, .int .i64 c, .int .i64 r, v]) := by unfold msgV; rw [if_neg h8, if_neg h0, if_neg h3, if_neg h11]
  have E2 : aboutN t = 0 := by unfold aboutN; rw [if_neg h8, if_neg h0, if_neg h3, if_neg h11]
  rw [E, E2]
  have a0 := ta_foreign_echo
  have a1 := ta_foreign_echoReply
  have a2 := ta_foreign_unreachable
  have a3 := ta_foreign_exceeded
  go_enter Try.func84, Try.ntmps84
  go_wp2
  go_ret
  exact ⟨rfl, rfl⟩
end Go.Proofs.Ytjojeplffefnpaa
