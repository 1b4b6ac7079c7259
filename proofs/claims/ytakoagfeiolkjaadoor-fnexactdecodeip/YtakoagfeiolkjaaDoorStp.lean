/-
Contracts of functions of this seat.
-/
import Derived.Test.YtakoagfeiolkjaaDoorRows
import Derived.WalkKit
import Derived.ProofKit
import Derived.OpenShut
import Derived.Test.YtakoagfeiolkjaaDoorFrb
namespace Go.Proofs.YtakoagfeiolkjaaDoor
open Go.ChangeShapes Go.WideShapes Go.ChangeAt Go.RowKit
set_option linter.unusedVariables false
set_option maxRecDepth 100000
/-- Nothing but these blocks, and new ones, has changed. -/
structure Only (S : List Nat) (w w' : World) : Prop where
  os : w'.os = w.os
  tape : w'.tape = w.tape
  output : w'.output = w.output
  size : w.heap.size ≤ w'.heap.size
  block : ∀ k, k < w.heap.size → k ∉ S → w'.heap[k]? = w.heap[k]?
theorem Only.refl (S : List Nat) (w : World) : Only S w w := ⟨rfl, rfl, rfl, Nat.le_refl _, fun _ _ _ => rfl⟩
theorem Only.trans {S : List Nat} {a b c : World} (h : Only S a b) (k : Only S b c) : Only S a c :=
  ⟨k.os.trans h.os, k.tape.trans h.tape, k.output.trans h.output, Nat.le_trans h.size k.size, fun i hi hn => (k.block i (Nat.lt_of_lt_of_le hi h.size) hn).trans (h.block i hi hn)⟩
theorem Only.mono {S T : List Nat} {a b : World} (h : Only S a b) (hS : ∀ x ∈ S, x ∈ T) : Only T a b := ⟨h.os, h.tape, h.output, h.size, fun i hi hn => h.block i hi (fun hm => hn (hS i hm))⟩
theorem Only.of_grown {w w' : World} {v : Value} (h : w.grownBy w' v.ownBlock) : Only v.ownBlock.toList w w' :=
  ⟨h.os, h.tape, h.output, h.size, fun k hk hn => h.block k hk (fun e => hn (by rw [← e]; simp))⟩
theorem Only.of_some {w w' : World} {g : Nat} (h : w.grownBy w' (some g)) : Only [g] w w' :=
  ⟨h.os, h.tape, h.output, h.size, fun k hk hn => h.block k hk (fun e => hn (by cases e; simp))⟩
theorem Only.below {S : List Nat} {w w' : World} {B : Nat} (h : Only S w w') (hS : ∀ x ∈ S, B ≤ x) (hB : B ≤ w.heap.size) : Below B w w' :=
  ⟨h.os, h.tape, h.output, h.size, fun k hk => h.block k (by omega) (fun hm => by have := hS k hm; omega)⟩
theorem Only.of_below {S : List Nat} {w w' : World} (h : Below w.heap.size w w') : Only S w w' := ⟨h.os, h.tape, h.output, h.size, fun k hk _ => h.block k hk⟩

/-- A struct's box: its cells lie in the block where this call began. -/
def BoxRow (w0 w : World) (cs : Array Value) (ty : Nat) : Prop := Below w0.heap.size w0 w ∧ w0.heap.size < w.heap.size ∧ w.heap[w0.heap.size]? = some (.cells cs ty)
theorem BoxRow.start (w0 : World) (cs : Array Value) (ty : Nat) : BoxRow w0 (w0.alloc (.cells cs ty)) cs ty := ⟨(Below.refl _ _).alloc (Nat.le_refl _) _, by rw [World.size_alloc]; omega, heap_alloc_new _ _⟩
theorem BoxRow.next {w0 w w' : World} {cs : Array Value} {ty : Nat} (h : BoxRow w0 w cs ty) (hb : Below w.heap.size w w') : BoxRow w0 w' cs ty := ⟨h.1.trans (hb.mono h.1.size), Nat.lt_of_lt_of_le h.2.1 hb.size, (hb.block _ h.2.1).trans h.2.2⟩
theorem BoxRow.keep {w0 w w' : World} {cs : Array Value} {ty C : Nat} (h : BoxRow w0 w cs ty) (hb : Below C w w') (hC : w0.heap.size < C) : BoxRow w0 w' cs ty := ⟨h.1.trans (hb.mono (by omega)), Nat.lt_of_lt_of_le h.2.1 hb.size, (hb.block _ hC).trans h.2.2⟩
theorem BoxRow.cell {w0 w : World} {cs : Array Value} {ty : Nat} (h : BoxRow w0 w cs ty) (i : Nat) : w.cell? ⟨w0.heap.size, i, none⟩ = cs[i]? := cell_of_row _ _ i _ _ _ h.2.2
/-- Three boxes lie where this call began. -/
def Three (w W : World) (o0 o1 o2 : Obj) : Prop := Below w.heap.size w W ∧ w.heap.size + 2 < W.heap.size ∧ W.heap[w.heap.size]? = some o0 ∧ W.heap[w.heap.size + 1]? = some o1 ∧ W.heap[w.heap.size + 1 + 1]? = some o2
theorem Three.start (w : World) (o0 o1 o2 : Obj) : Three w (((w.alloc o0).alloc o1).alloc o2) o0 o1 o2 := by
  obtain ⟨h1, h2, h3, h4, h5⟩ := three_allocs w o0 o1 o2
  exact ⟨h1, by omega, h3, h4, h5⟩
theorem Three.next {w W W' : World} {o0 o1 o2 : Obj} (h : Three w W o0 o1 o2) (hb : Below W.heap.size W W') : Three w W' o0 o1 o2 := by
  obtain ⟨h1, h2, h3, h4, h5⟩ := h
  exact ⟨h1.trans (hb.mono h1.size), Nat.lt_of_lt_of_le h2 hb.size, (hb.block _ (by omega)).trans h3, (hb.block _ (by omega)).trans h4, (hb.block _ (by omega)).trans h5⟩
theorem grown_cell0 (w : World) (g i : Nat) (u : Value) : w.grownBy (w.setCell ⟨g, i, none⟩ u) (some g) :=
  ⟨rfl, rfl, rfl, by simp, fun k _ hk => heap_setCell_other w ⟨g, i, none⟩ k u (fun e => hk (by rw [e]))⟩
theorem Three.set2 {w W : World} {o0 o1 o2 o3 : Obj} (h : Three w W o0 o1 o2) (i : Nat) (u : Value) (hs : (W.setCell ⟨w.heap.size + 1 + 1, i, none⟩ u).heap[w.heap.size + 1 + 1]? = some o3) : Three w (W.setCell ⟨w.heap.size + 1 + 1, i, none⟩ u) o0 o1 o3 := by
  obtain ⟨h1, h2, h3, h4, h5⟩ := h
  have hg := grown_cell0 W (w.heap.size + 1 + 1) i u
  exact ⟨h1.setCell (p := ⟨w.heap.size + 1 + 1, i, none⟩) (by show _ ≤ w.heap.size + 1 + 1; omega) _, Nat.lt_of_lt_of_le h2 hg.size, (hg.block _ (by omega) (by intro e; have := Option.some.inj e; omega)).trans h3, (hg.block _ (by omega) (by intro e; have := Option.some.inj e; omega)).trans h4, hs⟩
/-- Two boxes lie where this call began. -/
def TwoB (w W : World) (o1 o2 : Obj) : Prop := (Below w.heap.size w W ∧ w.heap.size + 1 < W.heap.size) ∧ W.heap[w.heap.size]? = some o1 ∧ W.heap[w.heap.size + 1]? = some o2
theorem TwoB.start (w : World) (o1 o2 : Obj) : TwoB w ((w.alloc o1).alloc o2) o1 o2 := by
  have s1 := World.size_alloc w o1
  have s2 := World.size_alloc (w.alloc o1) o2
  refine ⟨⟨((Below.refl _ _).alloc (Nat.le_refl _) _).alloc (by omega) _, by omega⟩, ?_, ?_⟩
  · rw [Below.heap_alloc _ o2 _ (by omega)]; exact heap_alloc_new w o1
  · rw [← s1]; exact heap_alloc_new (w.alloc o1) o2
theorem TwoB.next {w W W' : World} {o1 o2 : Obj} (h : TwoB w W o1 o2) (hb : Below W.heap.size W W') : TwoB w W' o1 o2 :=
  ⟨⟨h.1.1.trans (hb.mono h.1.1.size), Nat.lt_of_lt_of_le h.1.2 hb.size⟩, (hb.block _ (by have := h.1.2; omega)).trans h.2.1, (hb.block _ h.1.2).trans h.2.2⟩
theorem OwnB.only {R : List Nat} {w w' : World} {B : Nat} {v : Value} {zs : List Int} (h : OwnB w B v zs) (k : Only R w w') (hn : ∀ b, v.ownBlock = some b → b ∉ R) : OwnB w' B v zs :=
  ⟨⟨h.1.1, by
    rcases h.1.2 with h0 | ⟨g, cap, cur, hv, hB, hg, hrest⟩
    · exact .inl h0
    · exact .inr ⟨g, cap, cur, hv, hB, by rw [k.block g (Array.getElem?_eq_some_iff.1 hg).1 (hn g (by rw [hv]; rfl))]; exact hg, hrest⟩⟩, h.2⟩
theorem OwnB.ge {w : World} {B : Nat} {v : Value} {zs : List Int} (h : OwnB w B v zs) : ∀ k, v.ownBlock = some k → B ≤ k := fun k hk => (h.1.lt k hk).1

/-- A Packet's box is as it was laid. -/
abbrev BoxPacket (w0 w : World) (x0 : Int) (x1 : Int) (x2 : Bool) (x3 : Bool) (x4 : Int) (x5 : Int) (x6 : Int) (x7 : Int) (x8 : Int) (v0 : Value) (v1 : Value) : Prop := Below w0.heap.size w0 w ∧ w0.heap.size < w.heap.size ∧ w.cell? ⟨w0.heap.size, 0, none⟩ = some (.int .i64 x0) ∧ w.cell? ⟨w0.heap.size, 1, none⟩ = some (.int .i64 x1) ∧ w.cell? ⟨w0.heap.size, 2, none⟩ = some (.bool x2) ∧ w.cell? ⟨w0.heap.size, 3, none⟩ = some (.bool x3) ∧ w.cell? ⟨w0.heap.size, 4, none⟩ = some (.int .i64 x4) ∧ w.cell? ⟨w0.heap.size, 5, none⟩ = some (.int .i64 x5) ∧ w.cell? ⟨w0.heap.size, 6, none⟩ = some (.int .i64 x6) ∧ w.cell? ⟨w0.heap.size, 7, none⟩ = some (.int .i64 x7) ∧ w.cell? ⟨w0.heap.size, 8, none⟩ = some (.int .i64 x8) ∧ w.cell? ⟨w0.heap.size, 9, none⟩ = some (v0) ∧ w.cell? ⟨w0.heap.size, 10, none⟩ = some (v1)
theorem BoxPacket.start (w0 : World) (x0 : Int) (x1 : Int) (x2 : Bool) (x3 : Bool) (x4 : Int) (x5 : Int) (x6 : Int) (x7 : Int) (x8 : Int) (v0 : Value) (v1 : Value) (ty : Nat) : BoxPacket w0 (w0.alloc (.cells #[.int .i64 x0, .int .i64 x1, .bool x2, .bool x3, .int .i64 x4, .int .i64 x5, .int .i64 x6, .int .i64 x7, .int .i64 x8, v0, v1] ty)) x0 x1 x2 x3 x4 x5 x6 x7 x8 v0 v1 := by
  have hh := heap_alloc_new w0 (.cells #[.int .i64 x0, .int .i64 x1, .bool x2, .bool x3, .int .i64 x4, .int .i64 x5, .int .i64 x6, .int .i64 x7, .int .i64 x8, v0, v1] ty)
  exact ⟨(Below.refl _ _).alloc (Nat.le_refl _) _, by rw [World.size_alloc]; omega, cell_of_row _ _ 0 _ _ _ hh, cell_of_row _ _ 1 _ _ _ hh, cell_of_row _ _ 2 _ _ _ hh, cell_of_row _ _ 3 _ _ _ hh, cell_of_row _ _ 4 _ _ _ hh, cell_of_row _ _ 5 _ _ _ hh, cell_of_row _ _ 6 _ _ _ hh, cell_of_row _ _ 7 _ _ _ hh, cell_of_row _ _ 8 _ _ _ hh, cell_of_row _ _ 9 _ _ _ hh, cell_of_row _ _ 10 _ _ _ hh⟩
theorem BoxPacket.keep {w0 w w' : World} {C : Nat} {x0 : Int} {x1 : Int} {x2 : Bool} {x3 : Bool} {x4 : Int} {x5 : Int} {x6 : Int} {x7 : Int} {x8 : Int} {v0 : Value} {v1 : Value} (h : BoxPacket w0 w x0 x1 x2 x3 x4 x5 x6 x7 x8 v0 v1) (hb : Below C w w') (hC : w0.heap.size < C) : BoxPacket w0 w' x0 x1 x2 x3 x4 x5 x6 x7 x8 v0 v1 := by
  obtain ⟨h1, h2, k0, k1, k2, k3, k4, k5, k6, k7, k8, k9, k10⟩ := h
  exact ⟨h1.trans (hb.mono (by omega)), Nat.lt_of_lt_of_le h2 hb.size, by rw [hb.cell (p := ⟨w0.heap.size, 0, none⟩) hC]; exact k0, by rw [hb.cell (p := ⟨w0.heap.size, 1, none⟩) hC]; exact k1, by rw [hb.cell (p := ⟨w0.heap.size, 2, none⟩) hC]; exact k2, by rw [hb.cell (p := ⟨w0.heap.size, 3, none⟩) hC]; exact k3, by rw [hb.cell (p := ⟨w0.heap.size, 4, none⟩) hC]; exact k4, by rw [hb.cell (p := ⟨w0.heap.size, 5, none⟩) hC]; exact k5, by rw [hb.cell (p := ⟨w0.heap.size, 6, none⟩) hC]; exact k6, by rw [hb.cell (p := ⟨w0.heap.size, 7, none⟩) hC]; exact k7, by rw [hb.cell (p := ⟨w0.heap.size, 8, none⟩) hC]; exact k8, by rw [hb.cell (p := ⟨w0.heap.size, 9, none⟩) hC]; exact k9, by rw [hb.cell (p := ⟨w0.heap.size, 10, none⟩) hC]; exact k10⟩
theorem BoxPacket.next {w0 w w' : World} {x0 : Int} {x1 : Int} {x2 : Bool} {x3 : Bool} {x4 : Int} {x5 : Int} {x6 : Int} {x7 : Int} {x8 : Int} {v0 : Value} {v1 : Value} (h : BoxPacket w0 w x0 x1 x2 x3 x4 x5 x6 x7 x8 v0 v1) (hb : Below w.heap.size w w') : BoxPacket w0 w' x0 x1 x2 x3 x4 x5 x6 x7 x8 v0 v1 := h.keep hb h.2.1
theorem BoxPacket.drew {w0 w : World} {x0 : Int} {x1 : Int} {x2 : Bool} {x3 : Bool} {x4 : Int} {x5 : Int} {x6 : Int} {x7 : Int} {x8 : Int} {v0 : Value} {v1 : Value} (h : BoxPacket w0 w x0 x1 x2 x3 x4 x5 x6 x7 x8 v0 v1) : BoxPacket w0 w.drew x0 x1 x2 x3 x4 x5 x6 x7 x8 v0 v1 := h.next ((Below.refl _ _).drew)
theorem twoPacket {w0 w1 w w' : World} {x0 : Int} {x1 : Int} {x2 : Bool} {x3 : Bool} {x4 : Int} {x5 : Int} {x6 : Int} {x7 : Int} {x8 : Int} {v0 : Value} {v1 : Value} {u0 : Value} {u1 : Value} (h : BoxPacket w0 w x0 x1 x2 x3 x4 x5 x6 x7 x8 v0 v1 ∧ BoxPacket w1 w x0 x1 x2 x3 x4 x5 x6 x7 x8 u0 u1) (hb : Below w.heap.size w w') : BoxPacket w0 w' x0 x1 x2 x3 x4 x5 x6 x7 x8 v0 v1 ∧ BoxPacket w1 w' x0 x1 x2 x3 x4 x5 x6 x7 x8 u0 u1 := ⟨h.1.next hb, h.2.next hb⟩
/-- A Packet lies in block b. -/
abbrev CellPacket (w : World) (b : Nat) (x0 : Int) (x1 : Int) (x2 : Bool) (x3 : Bool) (x4 : Int) (x5 : Int) (x6 : Int) (x7 : Int) (x8 : Int) (v0 : Value) (v1 : Value) : Prop := b < w.heap.size ∧ w.cell? ⟨b, 0, none⟩ = some (.int .i64 x0) ∧ w.cell? ⟨b, 1, none⟩ = some (.int .i64 x1) ∧ w.cell? ⟨b, 2, none⟩ = some (.bool x2) ∧ w.cell? ⟨b, 3, none⟩ = some (.bool x3) ∧ w.cell? ⟨b, 4, none⟩ = some (.int .i64 x4) ∧ w.cell? ⟨b, 5, none⟩ = some (.int .i64 x5) ∧ w.cell? ⟨b, 6, none⟩ = some (.int .i64 x6) ∧ w.cell? ⟨b, 7, none⟩ = some (.int .i64 x7) ∧ w.cell? ⟨b, 8, none⟩ = some (.int .i64 x8) ∧ w.cell? ⟨b, 9, none⟩ = some (v0) ∧ w.cell? ⟨b, 10, none⟩ = some (v1)
theorem CellPacket.start (w : World) (x0 : Int) (x1 : Int) (x2 : Bool) (x3 : Bool) (x4 : Int) (x5 : Int) (x6 : Int) (x7 : Int) (x8 : Int) (v0 : Value) (v1 : Value) (ty : Nat) : CellPacket (w.alloc (.cells #[.int .i64 x0, .int .i64 x1, .bool x2, .bool x3, .int .i64 x4, .int .i64 x5, .int .i64 x6, .int .i64 x7, .int .i64 x8, v0, v1] ty)) w.heap.size x0 x1 x2 x3 x4 x5 x6 x7 x8 v0 v1 := (BoxPacket.start w x0 x1 x2 x3 x4 x5 x6 x7 x8 v0 v1 ty).2
theorem CellPacket.below {w w' : World} {b C : Nat} {x0 : Int} {x1 : Int} {x2 : Bool} {x3 : Bool} {x4 : Int} {x5 : Int} {x6 : Int} {x7 : Int} {x8 : Int} {v0 : Value} {v1 : Value} (h : CellPacket w b x0 x1 x2 x3 x4 x5 x6 x7 x8 v0 v1) (hb : Below C w w') (hC : b < C) : CellPacket w' b x0 x1 x2 x3 x4 x5 x6 x7 x8 v0 v1 := by
  obtain ⟨h2, k0, k1, k2, k3, k4, k5, k6, k7, k8, k9, k10⟩ := h
  exact ⟨Nat.lt_of_lt_of_le h2 hb.size, by rw [hb.cell (p := ⟨b, 0, none⟩) hC]; exact k0, by rw [hb.cell (p := ⟨b, 1, none⟩) hC]; exact k1, by rw [hb.cell (p := ⟨b, 2, none⟩) hC]; exact k2, by rw [hb.cell (p := ⟨b, 3, none⟩) hC]; exact k3, by rw [hb.cell (p := ⟨b, 4, none⟩) hC]; exact k4, by rw [hb.cell (p := ⟨b, 5, none⟩) hC]; exact k5, by rw [hb.cell (p := ⟨b, 6, none⟩) hC]; exact k6, by rw [hb.cell (p := ⟨b, 7, none⟩) hC]; exact k7, by rw [hb.cell (p := ⟨b, 8, none⟩) hC]; exact k8, by rw [hb.cell (p := ⟨b, 9, none⟩) hC]; exact k9, by rw [hb.cell (p := ⟨b, 10, none⟩) hC]; exact k10⟩
theorem CellPacket.next {w w' : World} {b : Nat} {x0 : Int} {x1 : Int} {x2 : Bool} {x3 : Bool} {x4 : Int} {x5 : Int} {x6 : Int} {x7 : Int} {x8 : Int} {v0 : Value} {v1 : Value} (h : CellPacket w b x0 x1 x2 x3 x4 x5 x6 x7 x8 v0 v1) (hb : Below w.heap.size w w') : CellPacket w' b x0 x1 x2 x3 x4 x5 x6 x7 x8 v0 v1 := h.below hb h.1
theorem CellPacket.only {w w' : World} {b : Nat} {R : List Nat} {x0 : Int} {x1 : Int} {x2 : Bool} {x3 : Bool} {x4 : Int} {x5 : Int} {x6 : Int} {x7 : Int} {x8 : Int} {v0 : Value} {v1 : Value} (h : CellPacket w b x0 x1 x2 x3 x4 x5 x6 x7 x8 v0 v1) (hg : Only R w w') (hne : b ∉ R) : CellPacket w' b x0 x1 x2 x3 x4 x5 x6 x7 x8 v0 v1 := by
  obtain ⟨h2, k0, k1, k2, k3, k4, k5, k6, k7, k8, k9, k10⟩ := h
  have hk := hg.block b h2 hne
  exact ⟨Nat.lt_of_lt_of_le h2 hg.size, by rw [World.cell?_of_block (a := ⟨b, 0, none⟩) hk]; exact k0, by rw [World.cell?_of_block (a := ⟨b, 1, none⟩) hk]; exact k1, by rw [World.cell?_of_block (a := ⟨b, 2, none⟩) hk]; exact k2, by rw [World.cell?_of_block (a := ⟨b, 3, none⟩) hk]; exact k3, by rw [World.cell?_of_block (a := ⟨b, 4, none⟩) hk]; exact k4, by rw [World.cell?_of_block (a := ⟨b, 5, none⟩) hk]; exact k5, by rw [World.cell?_of_block (a := ⟨b, 6, none⟩) hk]; exact k6, by rw [World.cell?_of_block (a := ⟨b, 7, none⟩) hk]; exact k7, by rw [World.cell?_of_block (a := ⟨b, 8, none⟩) hk]; exact k8, by rw [World.cell?_of_block (a := ⟨b, 9, none⟩) hk]; exact k9, by rw [World.cell?_of_block (a := ⟨b, 10, none⟩) hk]; exact k10⟩
set_option maxHeartbeats 2000000 in
theorem eqPacket_walk (x0 : Int) (x1 : Int) (x2 : Bool) (x3 : Bool) (x4 : Int) (x5 : Int) (x6 : Int) (x7 : Int) (x8 : Int) (a0 : Option Addr) (n0 c0 : Nat) (a1 : Option Addr) (n1 c1 : Nat) (b0 : Option Addr) (d0 : Nat) (b1 : Option Addr) (d1 : Nat) (z0 : List Int) (z1 : List Int) (w : World) (h0n : z0.length = n0) (h0a : Arr w a0 z0) (h0b : Arr w b0 z0) (m0 : n0 ≤ 1048576) (h1n : z1.length = n1) (h1a : Arr w a1 z1) (h1b : Arr w b1 z1) (m1 : n1 ≤ 1048576) :
    Calls Tryd.prog 19 #[.agg #[.int .i64 x0, .int .i64 x1, .bool x2, .bool x3, .int .i64 x4, .int .i64 x5, .int .i64 x6, .int .i64 x7, .int .i64 x8, .slice a0 n0 c0, .slice a1 n1 c1], .agg #[.int .i64 x0, .int .i64 x1, .bool x2, .bool x3, .int .i64 x4, .int .i64 x5, .int .i64 x6, .int .i64 x7, .int .i64 x8, .slice b0 n0 d0, .slice b1 n1 d1]] w fun e w' => e = .returned (.bool true) ∧ Below w.heap.size w w' := by
  have HW := hide (TwoB.start w (.cells #[.int .i64 x0, .int .i64 x1, .bool x2, .bool x3, .int .i64 x4, .int .i64 x5, .int .i64 x6, .int .i64 x7, .int .i64 x8, .slice a0 n0 c0, .slice a1 n1 c1] 39) (.cells #[.int .i64 x0, .int .i64 x1, .bool x2, .bool x3, .int .i64 x4, .int .i64 x5, .int .i64 x6, .int .i64 x7, .int .i64 x8, .slice b0 n0 d0, .slice b1 n1 d1] 39))
  have E0 := hide (fun W (hb : Below w.heap.size w W) => eqByteS_walk a0 b0 n0 c0 d0 z0 W h0n (h0a.below hb (Nat.le_refl _)) (h0b.below hb (Nat.le_refl _)) m0)
  have E1 := hide (fun W (hb : Below w.heap.size w W) => eqByteS_walk a1 b1 n1 c1 d1 z1 W h1n (h1a.below hb (Nat.le_refl _)) (h1b.below hb (Nat.le_refl _)) m1)
  clear h0n h0a h0b h1n h1a h1b
  go_enter Tryd.func19, Tryd.ntmps19
  go_wp2_with fail
  generalize (w.alloc (.cells #[.int .i64 x0, .int .i64 x1, .bool x2, .bool x3, .int .i64 x4, .int .i64 x5, .int .i64 x6, .int .i64 x7, .int .i64 x8, .slice a0 n0 c0, .slice a1 n1 c1] 39)).alloc (.cells #[.int .i64 x0, .int .i64 x1, .bool x2, .bool x3, .int .i64 x4, .int .i64 x5, .int .i64 x6, .int .i64 x7, .int .i64 x8, .slice b0 n0 d0, .slice b1 n1 d1] 39) = W at *
  refine (E0.out W HW.out.1.1).mono ?_
  rintro e w1 ⟨rfl, hb, _⟩
  have HW' := hide (HW.out.next hb)
  clear HW hb
  have HW := HW'
  clear HW'
  have p1 : w1.cell? ⟨w.heap.size, 10, none⟩ = some (.slice a1 n1 c1) := cell_of_row _ _ 10 _ _ _ HW.out.2.1
  have q1 : w1.cell? ⟨w.heap.size + 1, 10, none⟩ = some (.slice b1 n1 d1) := cell_of_row _ _ 10 _ _ _ HW.out.2.2
  go_wp2_with fail
  clear p1 q1
  refine (E1.out w1 HW.out.1.1).mono ?_
  rintro e w2 ⟨rfl, hb, _⟩
  have HW' := hide (HW.out.next hb)
  clear HW hb
  have HW := HW'
  clear HW'
  go_wp2_with fail
  go_ret
  exact ⟨rfl, HW.out.1.1⟩
set_option maxHeartbeats 2000000 in
theorem markPacket_walk (x0 : Int) (x1 : Int) (x2 : Bool) (x3 : Bool) (x4 : Int) (x5 : Int) (x6 : Int) (x7 : Int) (x8 : Int) (v0 : Value) (v1 : Value) (z0 : List Int) (z1 : List Int) (k : Nat) (w : World) (B0 : Nat) (h0 : OwnB w B0 v0 z0) (m0 : z0.length ≤ 2097152) (B1 : Nat) (h1 : OwnB w B1 v1 z1) (m1 : z1.length ≤ 2097152) (q01 : ∀ b, v0.ownBlock = some b → v1.ownBlock ≠ some b) (hk : k + z0.length + z1.length ≤ 4194304) :
    Calls Tryd.prog 20 #[.agg #[.int .i64 x0, .int .i64 x1, .bool x2, .bool x3, .int .i64 x4, .int .i64 x5, .int .i64 x6, .int .i64 x7, .int .i64 x8, v0, v1], .int .i64 (k : Int)] w fun e w' => e = .returned (.int .i64 ((k : Int) + (z0.length : Int) + (z1.length : Int))) ∧ OwnB w' B0 v0 (marks (k) z0.length) ∧ OwnB w' B1 v1 (marks (k + z0.length) z1.length) ∧ Only (v0.ownBlock.toList ++ v1.ownBlock.toList) w w' := by
  obtain ⟨a0, c0, rfl, _⟩ := own_slice h0
  obtain ⟨a1, c1, rfl, _⟩ := own_slice h1
  have hB := BoxRow.start w #[.int .i64 x0, .int .i64 x1, .bool x2, .bool x3, .int .i64 x4, .int .i64 x5, .int .i64 x6, .int .i64 x7, .int .i64 x8, .slice a0 z0.length c0, .slice a1 z1.length c1] 39
  have H0 := hide (OwnB.next h0 hB.1)
  have H1 := hide (OwnB.next h1 hB.1)
  have hlt := hB.2.1
  have HB := hide hB.2.2
  have MB0 := hide (own_lt h0)
  have MB1 := hide (own_lt h1)
  have HR := hide (Only.of_below (S := (Value.slice a0 z0.length c0).ownBlock.toList ++ (Value.slice a1 z1.length c1).ownBlock.toList) hB.1)
  clear hB h0 h1
  go_enter Tryd.func20, Tryd.ntmps20
  go_wp2_with fail
  generalize w.alloc (.cells #[.int .i64 x0, .int .i64 x1, .bool x2, .bool x3, .int .i64 x4, .int .i64 x5, .int .i64 x6, .int .i64 x7, .int .i64 x8, .slice a0 z0.length c0, .slice a1 z1.length c1] 39) = W at *
  have hM := markB_walk _ B0 z0 (k) W H0.out m0 (by omega)
  have HM := hide hM
  clear hM
  refine HM.out.mono ?_
  rintro e w1 ⟨rfl, hO, hg⟩
  have H1' := hide (H1.out.kept hg (by cases hv : (Value.slice a1 z1.length c1).ownBlock with | none => exact .inl rfl | some b => exact .inr (fun e => q01 b e.symm hv)))
  clear H1
  have H1 := H1'
  clear H1'
  have H0' := hide hO
  clear H0
  have H0 := H0'
  clear H0'
  have HR' := hide (HR.out.trans ((Only.of_grown hg).mono (fun b hb => by simp only [List.mem_append]; simp [hb])))
  clear HR
  have HR := HR'
  clear HR'
  have hne : (Value.slice a0 z0.length c0).ownBlock ≠ some w.heap.size := fun e => by have := MB0.out w.heap.size e; omega
  have HB' := hide ((hg.block w.heap.size hlt (fun e => hne e.symm)).trans HB.out)
  clear HB
  have HB := HB'
  have hlt' := Nat.lt_of_lt_of_le hlt hg.size
  clear HB' hne hlt
  have hlt := hlt'
  clear hlt'
  have p1 : w1.cell? ⟨w.heap.size, 10, none⟩ = some (.slice a1 z1.length c1) := cell_of_row _ _ 10 _ _ _ HB.out
  clear hO hg HM
  go_wp2_with fail
  clear p1
  have hM := markB_walk _ B1 z1 (k + z0.length) w1 H1.out m1 (by omega)
  rw [show ((k + z0.length : Nat) : Int) = (k : Int) + (z0.length : Int) by omega] at hM
  have HM := hide hM
  clear hM
  refine HM.out.mono ?_
  rintro e w2 ⟨rfl, hO, hg⟩
  have H0' := hide (H0.out.kept hg (by cases hv : (Value.slice a0 z0.length c0).ownBlock with | none => exact .inl rfl | some b => exact .inr (fun e => q01 b hv e.symm)))
  clear H0
  have H0 := H0'
  clear H0'
  have H1' := hide hO
  clear H1
  have H1 := H1'
  clear H1'
  have HR' := hide (HR.out.trans ((Only.of_grown hg).mono (fun b hb => by simp only [List.mem_append]; simp [hb])))
  clear HR
  have HR := HR'
  clear HR'
  clear hO hg HM
  go_wp2_with fail
  go_ret
  exact ⟨rfl, H0.out, H1.out, HR.out⟩
set_option maxHeartbeats 2000000 in
theorem heldPacket_walk (x0 : Int) (x1 : Int) (x2 : Bool) (x3 : Bool) (x4 : Int) (x5 : Int) (x6 : Int) (x7 : Int) (x8 : Int) (a0 : Option Addr) (n0 c0 : Nat) (a1 : Option Addr) (n1 c1 : Nat) (k : Nat) (w : World) (h0 : Arr w a0 (marks (k) n0)) (m0 : n0 ≤ 2097152) (h1 : Arr w a1 (marks (k + n0) n1)) (m1 : n1 ≤ 2097152) (hk : k + n0 + n1 ≤ 4194304) :
    Calls Tryd.prog 21 #[.agg #[.int .i64 x0, .int .i64 x1, .bool x2, .bool x3, .int .i64 x4, .int .i64 x5, .int .i64 x6, .int .i64 x7, .int .i64 x8, .slice a0 n0 c0, .slice a1 n1 c1], .int .i64 (k : Int)] w fun e w' => e = .returned (.int .i64 ((k : Int) + (n0 : Int) + (n1 : Int))) ∧ Below w.heap.size w w' := by
  have hB := BoxRow.start w #[.int .i64 x0, .int .i64 x1, .bool x2, .bool x3, .int .i64 x4, .int .i64 x5, .int .i64 x6, .int .i64 x7, .int .i64 x8, .slice a0 n0 c0, .slice a1 n1 c1] 39
  have hM0 := heldB_walk a0 n0 c0 (k) (w.alloc (.cells #[.int .i64 x0, .int .i64 x1, .bool x2, .bool x3, .int .i64 x4, .int .i64 x5, .int .i64 x6, .int .i64 x7, .int .i64 x8, .slice a0 n0 c0, .slice a1 n1 c1] 39)) (h0.below hB.1 (Nat.le_refl _)) m0 (by omega)
  have HM0 := hide hM0
  clear hM0 h0
  have hM1 := heldB_walk a1 n1 c1 (k + n0) (w.alloc (.cells #[.int .i64 x0, .int .i64 x1, .bool x2, .bool x3, .int .i64 x4, .int .i64 x5, .int .i64 x6, .int .i64 x7, .int .i64 x8, .slice a0 n0 c0, .slice a1 n1 c1] 39)) (h1.below hB.1 (Nat.le_refl _)) m1 (by omega)
  rw [show ((k + n0 : Nat) : Int) = (k : Int) + (n0 : Int) by omega] at hM1
  have HM1 := hide hM1
  clear hM1 h1
  have HB := hide hB.1
  have p1 : (w.alloc (.cells #[.int .i64 x0, .int .i64 x1, .bool x2, .bool x3, .int .i64 x4, .int .i64 x5, .int .i64 x6, .int .i64 x7, .int .i64 x8, .slice a0 n0 c0, .slice a1 n1 c1] 39)).cell? ⟨w.heap.size, 10, none⟩ = some (.slice a1 n1 c1) := hB.cell 10
  clear hB
  go_enter Tryd.func21, Tryd.ntmps21
  go_wp2_with fail
  refine HM0.out.mono ?_
  rintro e w' ⟨rfl, rfl⟩
  go_wp2_with fail
  refine HM1.out.mono ?_
  rintro e w' ⟨rfl, rfl⟩
  go_wp2_with fail
  go_ret
  exact ⟨rfl, HB.out⟩
/-- A copy of a Packet: its rows are its own. -/
def CopPacket (W : World) (B : Nat) (g0 g1 : Nat) (n0 : Nat) (n1 : Nat) (z0 : List Int) (z1 : List Int) : Prop := OwnB W B (.slice (some ⟨g0, 0, none⟩) n0 n0) z0 ∧ OwnB W B (.slice (some ⟨g1, 0, none⟩) n1 n1) z1 ∧ g0 < g1
theorem CopPacket.next {W W' : World} {B : Nat} {g0 g1 : Nat} {n0 n1 : Nat} {z0 z1 : List Int} (h : CopPacket W B g0 g1 n0 n1 z0 z1) (hb : Below W.heap.size W W') : CopPacket W' B g0 g1 n0 n1 z0 z1 := by
  obtain ⟨h0, h1, q0⟩ := h
  exact ⟨h0.next hb, h1.next hb, q0⟩
theorem CopPacket.drew {W : World} {B : Nat} {g0 g1 : Nat} {n0 n1 : Nat} {z0 z1 : List Int} (h : CopPacket W B g0 g1 n0 n1 z0 z1) : CopPacket W.drew B g0 g1 n0 n1 z0 z1 := h.next ((Below.refl _ _).drew)
theorem CopPacket.arr0 {W : World} {B : Nat} {g0 g1 : Nat} {n0 n1 : Nat} {z0 z1 : List Int} (h : CopPacket W B g0 g1 n0 n1 z0 z1) : Arr W (some ⟨g0, 0, none⟩) z0 := (own_arr h.1).1
theorem CopPacket.own0 {W : World} {B : Nat} {g0 g1 : Nat} {n0 n1 : Nat} {z0 z1 : List Int} (h : CopPacket W B g0 g1 n0 n1 z0 z1) : OwnB W B (.slice (some ⟨g0, 0, none⟩) n0 n0) z0 := h.1
theorem CopPacket.arr1 {W : World} {B : Nat} {g0 g1 : Nat} {n0 n1 : Nat} {z0 z1 : List Int} (h : CopPacket W B g0 g1 n0 n1 z0 z1) : Arr W (some ⟨g1, 0, none⟩) z1 := (own_arr h.2.1).1
theorem CopPacket.own1 {W : World} {B : Nat} {g0 g1 : Nat} {n0 n1 : Nat} {z0 z1 : List Int} (h : CopPacket W B g0 g1 n0 n1 z0 z1) : OwnB W B (.slice (some ⟨g1, 0, none⟩) n1 n1) z1 := h.2.1
theorem CopPacket.at {W : World} {B : Nat} {g0 g1 : Nat} {n0 n1 : Nat} {z0 z1 : List Int} (h : CopPacket W B g0 g1 n0 n1 z0 z1) : ∀ b ∈ [g0, g1], B ≤ b ∧ b < W.heap.size := by
  intro b hb
  simp only [List.mem_cons, List.not_mem_nil, or_false] at hb
  rcases hb with rfl | rfl
  · exact h.own0.1.lt _ rfl
  · exact h.own1.1.lt _ rfl
/-- What is wanted of a function of a Packet that answers bytes and a code. -/
def EncPacketP (f : Nat) (Pre : World → Prop) (x0 : Int) (x1 : Int) (x2 : Bool) (x3 : Bool) (x4 : Int) (x5 : Int) (x6 : Int) (x7 : Int) (x8 : Int) (z0 : List Int) (z1 : List Int) (L : List Int) (C : Int) : Prop :=
  ∀ (a0 : Option Addr) (n0 c0 : Nat) (a1 : Option Addr) (n1 c1 : Nat) (W : World), z0.length = n0 → Arr W a0 z0 → n0 ≤ c0 → n0 ≤ 1048576 → z1.length = n1 → Arr W a1 z1 → n1 ≤ c1 → n1 ≤ 1048576 → Pre W → Calls Tryd.prog f #[.agg #[.int .i64 x0, .int .i64 x1, .bool x2, .bool x3, .int .i64 x4, .int .i64 x5, .int .i64 x6, .int .i64 x7, .int .i64 x8, .slice a0 n0 c0, .slice a1 n1 c1]] W fun e w' => ∃ v : Value, e = .returned (.tuple #[v, .int .i64 C]) ∧ OwnB w' W.heap.size v L ∧ Below W.heap.size W w'
/-- What is wanted of a function of a Packet that answers a number. -/
def NumPacketP (f : Nat) (Pre : World → Prop) (x0 : Int) (x1 : Int) (x2 : Bool) (x3 : Bool) (x4 : Int) (x5 : Int) (x6 : Int) (x7 : Int) (x8 : Int) (z0 : List Int) (z1 : List Int) (C : Int) : Prop :=
  ∀ (a0 : Option Addr) (n0 c0 : Nat) (a1 : Option Addr) (n1 c1 : Nat) (W : World), z0.length = n0 → Arr W a0 z0 → n0 ≤ c0 → n0 ≤ 1048576 → z1.length = n1 → Arr W a1 z1 → n1 ≤ c1 → n1 ≤ 1048576 → Pre W → Calls Tryd.prog f #[.agg #[.int .i64 x0, .int .i64 x1, .bool x2, .bool x3, .int .i64 x4, .int .i64 x5, .int .i64 x6, .int .i64 x7, .int .i64 x8, .slice a0 n0 c0, .slice a1 n1 c1]] W fun e w' => e = .returned (.int .i64 C) ∧ Below W.heap.size W w'
/-- A Packet that was answered: its rows are its own, and apart. -/
def AnsPacket (W : World) (B : Nat) (a0 a1 : Option Addr) (k0 k1 : Nat) (n0 : Nat) (n1 : Nat) (L0 L1 : List Int) : Prop := OwnB W B (.slice a0 n0 k0) L0 ∧ OwnB W B (.slice a1 n1 k1) L1 ∧ (∀ b, (Value.slice a0 n0 k0).ownBlock = some b → (Value.slice a1 n1 k1).ownBlock ≠ some b)
theorem AnsPacket.next {W W' : World} {B : Nat} {a0 a1 : Option Addr} {k0 k1 : Nat} {n0 n1 : Nat} {L0 L1 : List Int} (h : AnsPacket W B a0 a1 k0 k1 n0 n1 L0 L1) (hb : Below W.heap.size W W') : AnsPacket W' B a0 a1 k0 k1 n0 n1 L0 L1 := by
  obtain ⟨h0, h1, p01⟩ := h
  exact ⟨OwnB.next h0 hb, OwnB.next h1 hb, p01⟩
def rowsPacket (a0 a1 : Option Addr) (k0 k1 : Nat) (n0 : Nat) (n1 : Nat) : List Nat := (Value.slice a0 n0 k0).ownBlock.toList ++ (Value.slice a1 n1 k1).ownBlock.toList
theorem AnsPacket.below {W W' : World} {B : Nat} {a0 a1 : Option Addr} {k0 k1 : Nat} {n0 n1 : Nat} {L0 L1 : List Int} (h : AnsPacket W B a0 a1 k0 k1 n0 n1 L0 L1) {C : Nat} (hb : Below C W W') (hC : ∀ b ∈ rowsPacket a0 a1 k0 k1 n0 n1, b < C) : AnsPacket W' B a0 a1 k0 k1 n0 n1 L0 L1 := by
  obtain ⟨h0, h1, p01⟩ := h
  exact ⟨OwnB.below h0 hb (fun k hk => hC k (by unfold rowsPacket; simp [hk])), OwnB.below h1 hb (fun k hk => hC k (by unfold rowsPacket; simp [hk])), p01⟩
theorem AnsPacket.only {W W' : World} {B : Nat} {a0 a1 : Option Addr} {k0 k1 : Nat} {n0 n1 : Nat} {L0 L1 : List Int} (h : AnsPacket W B a0 a1 k0 k1 n0 n1 L0 L1) {R : List Nat} (hb : Only R W W') (hC : ∀ b ∈ rowsPacket a0 a1 k0 k1 n0 n1, b ∉ R) : AnsPacket W' B a0 a1 k0 k1 n0 n1 L0 L1 := by
  obtain ⟨h0, h1, p01⟩ := h
  exact ⟨OwnB.only h0 hb (fun k hk => hC k (by unfold rowsPacket; simp [hk])), OwnB.only h1 hb (fun k hk => hC k (by unfold rowsPacket; simp [hk])), p01⟩
theorem AnsPacket.own0 {W : World} {B : Nat} {a0 a1 : Option Addr} {k0 k1 : Nat} {n0 n1 : Nat} {L0 L1 : List Int} (h : AnsPacket W B a0 a1 k0 k1 n0 n1 L0 L1) : OwnB W B (.slice a0 n0 k0) L0 := h.1
theorem AnsPacket.own1 {W : World} {B : Nat} {a0 a1 : Option Addr} {k0 k1 : Nat} {n0 n1 : Nat} {L0 L1 : List Int} (h : AnsPacket W B a0 a1 k0 k1 n0 n1 L0 L1) : OwnB W B (.slice a1 n1 k1) L1 := h.2.1
theorem AnsPacket.apart01 {W : World} {B : Nat} {a0 a1 : Option Addr} {k0 k1 : Nat} {n0 n1 : Nat} {L0 L1 : List Int} (h : AnsPacket W B a0 a1 k0 k1 n0 n1 L0 L1) : ∀ b, (Value.slice a0 n0 k0).ownBlock = some b → (Value.slice a1 n1 k1).ownBlock ≠ some b := h.2.2
theorem AnsPacket.at {W : World} {B : Nat} {a0 a1 : Option Addr} {k0 k1 : Nat} {n0 n1 : Nat} {L0 L1 : List Int} (h : AnsPacket W B a0 a1 k0 k1 n0 n1 L0 L1) : ∀ b ∈ rowsPacket a0 a1 k0 k1 n0 n1, B ≤ b ∧ b < W.heap.size := by
  intro b hb
  unfold rowsPacket at hb
  simp only [List.mem_append, Option.mem_toList] at hb
  rcases hb with hb | hb
  · exact h.own0.1.lt b hb
  · exact h.own1.1.lt b hb
/-- What is wanted of a function of bytes that answers a Packet and a code. -/
def DecPacketP (f : Nat) (Pre : World → Prop) (zs : List Int) (x0 : Int) (x1 : Int) (x2 : Bool) (x3 : Bool) (x4 : Int) (x5 : Int) (x6 : Int) (x7 : Int) (x8 : Int) (L0 L1 : List Int) (C : Int) : Prop :=
  ∀ (a : Option Addr) (n cap : Nat) (W : World), zs.length = n → Arr W a zs → n ≤ cap → n ≤ 1048576 → Pre W → Calls Tryd.prog f #[.slice a n cap] W fun e w' => ∃ v0 v1 : Value, e = .returned (.tuple #[.agg #[.int .i64 x0, .int .i64 x1, .bool x2, .bool x3, .int .i64 x4, .int .i64 x5, .int .i64 x6, .int .i64 x7, .int .i64 x8, v0, v1], .int .i64 C]) ∧ OwnB w' W.heap.size v0 L0 ∧ OwnB w' W.heap.size v1 L1 ∧ (∀ b, v0.ownBlock = some b → v1.ownBlock ≠ some b) ∧ Below W.heap.size W w'
end Go.Proofs.YtakoagfeiolkjaaDoor
