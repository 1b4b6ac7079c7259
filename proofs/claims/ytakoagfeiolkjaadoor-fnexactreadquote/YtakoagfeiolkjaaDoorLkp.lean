/-
Contracts of functions of this seat.
-/
import Derived.Test.YtakoagfeiolkjaaDoorRows
import Derived.WalkKit
import Derived.ProofKit
import Derived.OpenShut
import Derived.Test.YtakoagfeiolkjaaDoorDmk
namespace Go.Proofs.YtakoagfeiolkjaaDoor
open Go.ChangeShapes Go.WideShapes Go.ChangeAt Go.RowKit
set_option linter.unusedVariables false
set_option maxRecDepth 100000
/-- What stays as long as these blocks stay. -/
structure Keep (F : List Nat) (P : World → Prop) (W : World) : Prop where
  here : P W
  lt : ∀ b ∈ F, b < W.heap.size
  frame : ∀ W', (∀ b ∈ F, W'.heap[b]? = W.heap[b]?) → P W'
theorem Keep.move {F : List Nat} {P : World → Prop} {W W' : World} (h : Keep F P W) (hs : W.heap.size ≤ W'.heap.size) (hk : ∀ b ∈ F, W'.heap[b]? = W.heap[b]?) : Keep F P W' :=
  ⟨h.frame W' hk, fun b hb => Nat.lt_of_lt_of_le (h.lt b hb) hs, fun V hv => h.frame V (fun b hb => (hv b hb).trans (hk b hb))⟩
theorem Keep.next {F : List Nat} {P : World → Prop} {W W' : World} (h : Keep F P W) (hb : Below W.heap.size W W') : Keep F P W' :=
  h.move hb.size (fun b hm => hb.block b (h.lt b hm))
theorem Keep.only {F S : List Nat} {P : World → Prop} {W W' : World} (h : Keep F P W) (hb : Only S W W') (hd : ∀ b ∈ F, b ∉ S) : Keep F P W' :=
  h.move hb.size (fun b hm => hb.block b (h.lt b hm) (hd b hm))
theorem Keep.and {F G : List Nat} {P Q : World → Prop} {W : World} (h : Keep F P W) (k : Keep G Q W) : Keep (F ++ G) (fun W => P W ∧ Q W) W :=
  ⟨⟨h.here, k.here⟩, fun b hb => by rcases List.mem_append.1 hb with hb | hb; exact h.lt b hb; exact k.lt b hb, fun V hv => ⟨h.frame V (fun b hb => hv b (List.mem_append_left _ hb)), k.frame V (fun b hb => hv b (List.mem_append_right _ hb))⟩⟩
theorem Keep.obj {W : World} {g : Nat} {o : Obj} (h : W.heap[g]? = some o) : Keep [g] (fun W => W.heap[g]? = some o) W :=
  ⟨h, fun b hb => by rw [List.mem_singleton.1 hb]; exact (Array.getElem?_eq_some_iff.1 h).1, fun V hv => (hv g (by simp)).trans h⟩
theorem Keep.new (W : World) (o : Obj) : Keep [W.heap.size] (fun W' => W'.heap[W.heap.size]? = some o) (W.alloc o) := Keep.obj (heap_alloc_new W o)
theorem Keep.data {W : World} {B : Nat} {ds : List D} {vs : List Value} {bs : List Nat} (h : HoldsL W B ds vs bs) : Keep bs (fun W => HoldsL W B ds vs bs) W :=
  ⟨h, fun b hb => (HoldsL.lt _ _ _ h b hb).2, fun V hv => HoldsL.frame _ _ _ h hv⟩
theorem Keep.nil (W : World) : Keep [] (fun _ => True) W := ⟨trivial, by simp, fun _ _ => trivial⟩
theorem below_on {w W W' : World} (h : Below w.heap.size w W) (hb : Below W.heap.size W W') : Below w.heap.size w W' := h.trans (hb.mono h.size)
theorem below_alloc_on {w W : World} (h : Below w.heap.size w W) (o : Obj) : Below w.heap.size w (W.alloc o) := h.alloc h.size o
theorem below_only {w W W' : World} {S : List Nat} (h : Below w.heap.size w W) (hb : Only S W W') (hS : ∀ b ∈ S, w.heap.size ≤ b) : Below w.heap.size w W' := h.trans (hb.below hS h.size)
theorem Keep.set {F : List Nat} {P : World → Prop} {W : World} (h : Keep F P W) (g i : Nat) (u : Value) (hg : g ∉ F) : Keep F P (W.setCell ⟨g, i, none⟩ u) :=
  h.move (by simp) (fun b hb => heap_setCell_other W ⟨g, i, none⟩ b u (fun e => hg (by rw [← show b = g from e]; exact hb)))
theorem below_set {w W : World} (h : Below w.heap.size w W) (g i : Nat) (u : Value) (hg : w.heap.size ≤ g) : Below w.heap.size w (W.setCell ⟨g, i, none⟩ u) := h.setCell (p := ⟨g, i, none⟩) hg u
theorem holdsL_one {W : World} {B : Nat} {d : D} {v : Value} {f : List Nat} (h : Holds W B d v f) : HoldsL W B [d] [v] (f ++ []) := holdsL_cons.2 ⟨_, _, _, _, rfl, rfl, h, holdsL_nil.2 ⟨rfl, rfl⟩⟩
theorem nodup_left {a b : List Nat} (h : (a ++ b).Nodup) : a.Nodup := (List.nodup_append.1 h).1
theorem nodup_right {a b : List Nat} (h : (a ++ b).Nodup) : b.Nodup := (List.nodup_append.1 h).2.1
theorem nodup_apart {a b : List Nat} (h : (a ++ b).Nodup) : ∀ x ∈ b, x ∉ a := fun x hb ha => (List.nodup_append.1 h).2.2 x ha x hb rfl
end Go.Proofs.YtakoagfeiolkjaaDoor
