/-
Contracts of functions of this seat.
-/
import Derived.Test.YtcnfnimgpiaamaaDoorRows
import Derived.WalkKit
import Derived.ProofKit
import Derived.OpenShut
import Derived.Test.YtcnfnimgpiaamaaDoorFrb
namespace Go.Proofs.YtcnfnimgpiaamaaDoor
open Go.ChangeShapes Go.WideShapes Go.ChangeAt Go.RowKit
set_option linter.unusedVariables false
set_option maxRecDepth 100000
/-- Nothing but these blocks, and new ones, has changed. -/
structure Only (S : List Nat) (w w' : World) : Prop where
  os : w'.os = w.os
  tape : w'.tape = w.tape
  output : w'.output = w.output
  size : w.heap.size ≤ w'.heap.size
  block : ∀ k, k < w.heap.size → k ∉ S → w'.heap[k]? = w.heap[k]?
theorem Only.refl (S : List Nat) (w : World) : Only S w w := ⟨rfl, rfl, rfl, Nat.le_refl _, fun _ _ _ => rfl⟩
theorem Only.trans {S : List Nat} {a b c : World} (h : Only S a b) (k : Only S b c) : Only S a c :=
  ⟨k.os.trans h.os, k.tape.trans h.tape, k.output.trans h.output, Nat.le_trans h.size k.size, fun i hi hn => (k.block i (Nat.lt_of_lt_of_le hi h.size) hn).trans (h.block i hi hn)⟩
theorem Only.mono {S T : List Nat} {a b : World} (h : Only S a b) (hS : ∀ x ∈ S, x ∈ T) : Only T a b := ⟨h.os, h.tape, h.output, h.size, fun i hi hn => h.block i hi (fun hm => hn (hS i hm))⟩
theorem Only.of_grown {w w' : World} {v : Value} (h : w.grownBy w' v.ownBlock) : Only v.ownBlock.toList w w' :=
  ⟨h.os, h.tape, h.output, h.size, fun k hk hn => h.block k hk (fun e => hn (by rw [← e]; simp))⟩
theorem Only.of_some {w w' : World} {g : Nat} (h : w.grownBy w' (some g)) : Only [g] w w' :=
  ⟨h.os, h.tape, h.output, h.size, fun k hk hn => h.block k hk (fun e => hn (by cases e; simp))⟩
theorem Only.below {S : List Nat} {w w' : World} {B : Nat} (h : Only S w w') (hS : ∀ x ∈ S, B ≤ x) (hB : B ≤ w.heap.size) : Below B w w' :=
  ⟨h.os, h.tape, h.output, h.size, fun k hk => h.block k (by omega) (fun hm => by have := hS k hm; omega)⟩
theorem Only.of_below {S : List Nat} {w w' : World} (h : Below w.heap.size w w') : Only S w w' := ⟨h.os, h.tape, h.output, h.size, fun k hk _ => h.block k hk⟩

/-- A struct's box: its cells lie in the block where this call began. -/
def BoxRow (w0 w : World) (cs : Array Value) (ty : Nat) : Prop := Below w0.heap.size w0 w ∧ w0.heap.size < w.heap.size ∧ w.heap[w0.heap.size]? = some (.cells cs ty)
theorem BoxRow.start (w0 : World) (cs : Array Value) (ty : Nat) : BoxRow w0 (w0.alloc (.cells cs ty)) cs ty := ⟨(Below.refl _ _).alloc (Nat.le_refl _) _, by rw [World.size_alloc]; omega, heap_alloc_new _ _⟩
theorem BoxRow.next {w0 w w' : World} {cs : Array Value} {ty : Nat} (h : BoxRow w0 w cs ty) (hb : Below w.heap.size w w') : BoxRow w0 w' cs ty := ⟨h.1.trans (hb.mono h.1.size), Nat.lt_of_lt_of_le h.2.1 hb.size, (hb.block _ h.2.1).trans h.2.2⟩
theorem BoxRow.keep {w0 w w' : World} {cs : Array Value} {ty C : Nat} (h : BoxRow w0 w cs ty) (hb : Below C w w') (hC : w0.heap.size < C) : BoxRow w0 w' cs ty := ⟨h.1.trans (hb.mono (by omega)), Nat.lt_of_lt_of_le h.2.1 hb.size, (hb.block _ hC).trans h.2.2⟩
theorem BoxRow.cell {w0 w : World} {cs : Array Value} {ty : Nat} (h : BoxRow w0 w cs ty) (i : Nat) : w.cell? ⟨w0.heap.size, i, none⟩ = cs[i]? := cell_of_row _ _ i _ _ _ h.2.2
/-- Three boxes lie where this call began. -/
def Three (w W : World) (o0 o1 o2 : Obj) : Prop := Below w.heap.size w W ∧ w.heap.size + 2 < W.heap.size ∧ W.heap[w.heap.size]? = some o0 ∧ W.heap[w.heap.size + 1]? = some o1 ∧ W.heap[w.heap.size + 1 + 1]? = some o2
theorem Three.start (w : World) (o0 o1 o2 : Obj) : Three w (((w.alloc o0).alloc o1).alloc o2) o0 o1 o2 := by
  obtain ⟨h1, h2, h3, h4, h5⟩ := three_allocs w o0 o1 o2
  exact ⟨h1, by omega, h3, h4, h5⟩
theorem Three.next {w W W' : World} {o0 o1 o2 : Obj} (h : Three w W o0 o1 o2) (hb : Below W.heap.size W W') : Three w W' o0 o1 o2 := by
  obtain ⟨h1, h2, h3, h4, h5⟩ := h
  exact ⟨h1.trans (hb.mono h1.size), Nat.lt_of_lt_of_le h2 hb.size, (hb.block _ (by omega)).trans h3, (hb.block _ (by omega)).trans h4, (hb.block _ (by omega)).trans h5⟩
theorem grown_cell0 (w : World) (g i : Nat) (u : Value) : w.grownBy (w.setCell ⟨g, i, none⟩ u) (some g) :=
  ⟨rfl, rfl, rfl, by simp, fun k _ hk => heap_setCell_other w ⟨g, i, none⟩ k u (fun e => hk (by rw [e]))⟩
theorem Three.set2 {w W : World} {o0 o1 o2 o3 : Obj} (h : Three w W o0 o1 o2) (i : Nat) (u : Value) (hs : (W.setCell ⟨w.heap.size + 1 + 1, i, none⟩ u).heap[w.heap.size + 1 + 1]? = some o3) : Three w (W.setCell ⟨w.heap.size + 1 + 1, i, none⟩ u) o0 o1 o3 := by
  obtain ⟨h1, h2, h3, h4, h5⟩ := h
  have hg := grown_cell0 W (w.heap.size + 1 + 1) i u
  exact ⟨h1.setCell (p := ⟨w.heap.size + 1 + 1, i, none⟩) (by show _ ≤ w.heap.size + 1 + 1; omega) _, Nat.lt_of_lt_of_le h2 hg.size, (hg.block _ (by omega) (by intro e; have := Option.some.inj e; omega)).trans h3, (hg.block _ (by omega) (by intro e; have := Option.some.inj e; omega)).trans h4, hs⟩
/-- Two boxes lie where this call began. -/
def TwoB (w W : World) (o1 o2 : Obj) : Prop := (Below w.heap.size w W ∧ w.heap.size + 1 < W.heap.size) ∧ W.heap[w.heap.size]? = some o1 ∧ W.heap[w.heap.size + 1]? = some o2
theorem TwoB.start (w : World) (o1 o2 : Obj) : TwoB w ((w.alloc o1).alloc o2) o1 o2 := by
  have s1 := World.size_alloc w o1
  have s2 := World.size_alloc (w.alloc o1) o2
  refine ⟨⟨((Below.refl _ _).alloc (Nat.le_refl _) _).alloc (by omega) _, by omega⟩, ?_, ?_⟩
  · rw [Below.heap_alloc _ o2 _ (by omega)]; exact heap_alloc_new w o1
  · rw [← s1]; exact heap_alloc_new (w.alloc o1) o2
theorem TwoB.next {w W W' : World} {o1 o2 : Obj} (h : TwoB w W o1 o2) (hb : Below W.heap.size W W') : TwoB w W' o1 o2 :=
  ⟨⟨h.1.1.trans (hb.mono h.1.1.size), Nat.lt_of_lt_of_le h.1.2 hb.size⟩, (hb.block _ (by have := h.1.2; omega)).trans h.2.1, (hb.block _ h.1.2).trans h.2.2⟩
theorem OwnB.only {R : List Nat} {w w' : World} {B : Nat} {v : Value} {zs : List Int} (h : OwnB w B v zs) (k : Only R w w') (hn : ∀ b, v.ownBlock = some b → b ∉ R) : OwnB w' B v zs :=
  ⟨⟨h.1.1, by
    rcases h.1.2 with h0 | ⟨g, cap, cur, hv, hB, hg, hrest⟩
    · exact .inl h0
    · exact .inr ⟨g, cap, cur, hv, hB, by rw [k.block g (Array.getElem?_eq_some_iff.1 hg).1 (hn g (by rw [hv]; rfl))]; exact hg, hrest⟩⟩, h.2⟩
theorem OwnB.ge {w : World} {B : Nat} {v : Value} {zs : List Int} (h : OwnB w B v zs) : ∀ k, v.ownBlock = some k → B ≤ k := fun k hk => (h.1.lt k hk).1
end Go.Proofs.YtcnfnimgpiaamaaDoor
