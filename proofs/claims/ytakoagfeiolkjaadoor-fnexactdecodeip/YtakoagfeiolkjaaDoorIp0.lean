/-
Contracts of functions of this seat.
-/
import Derived.Test.YtakoagfeiolkjaaDoorRows
import Derived.WalkKit
import Derived.ProofKit
import Derived.OpenShut
import Derived.Test.YtakoagfeiolkjaaDoorIt1
import Derived.Test.YtakoagfeiolkjaaDoorIpn
namespace Go.Proofs.YtakoagfeiolkjaaDoor
open Go.ChangeShapes Go.WideShapes Go.ChangeAt Go.RowKit
set_option linter.unusedVariables false
set_option maxRecDepth 100000
abbrev zeroRP : Obj := .cells #[.int .i64 0, .int .i64 0, .int .i64 0, .int .i64 0, .int .i64 0, .int .i64 0, .int .i64 0, .int .i64 0, .int .i64 0, .slice none 0 0, .slice none 0 0] 62
/-- The result's box and the packet's, laid. -/
abbrev tpW (w : World) : World := (w.alloc zeroRP).alloc zeroRP
theorem tpW_size (w : World) : (tpW w).heap.size = w.heap.size + 2 := by
  have h1 := World.size_alloc w zeroRP
  have h2 := World.size_alloc (w.alloc zeroRP) zeroRP
  show ((w.alloc zeroRP).alloc zeroRP).heap.size = _
  omega
theorem tpW_facts (w : World) (g p : Nat) (bv ev : Value) (h : Cur w g bv p ev) : Cur (tpW w) g bv p ev ∧ FR (tpW w) w.heap.size 0 0 0 0 0 0 0 0 0 (.slice none 0 0) (.slice none 0 0) ∧ FR (tpW w) (w.heap.size + 1) 0 0 0 0 0 0 0 0 0 (.slice none 0 0) (.slice none 0 0) ∧ Below w.heap.size w (tpW w) ∧ (tpW w).heap.size = w.heap.size + 2 := by
  have hs := World.size_alloc w zeroRP
  have h1 := (Below.refl w.heap.size w).alloc (Nat.le_refl _) zeroRP
  have h2 := (Below.refl (w.alloc zeroRP).heap.size (w.alloc zeroRP)).alloc (Nat.le_refl _) zeroRP
  refine ⟨(h.below h1 h.lt).below h2 (by have := h.lt; omega), (h2.block _ (by omega)).trans (heap_alloc_new _ _), ?_, h1.trans (h2.mono (by omega)), tpW_size w⟩
  unfold FR
  rw [← hs]
  exact heap_alloc_new _ _
theorem only_new {w w' : World} {g : Nat} {S : List Nat} (h : Only S w w') (hS : ∀ x ∈ S, x = g ∨ w.heap.size ≤ x) : Only [g] w w' :=
  ⟨h.os, h.tape, h.output, h.size, fun k hk hn => h.block k hk (fun hm => by rcases hS k hm with e | e; exact hn (by simp [e]); omega)⟩
theorem only_set {w w1 : World} {S : List Nat} {R : Nat} (h : Only S w w1) (hR : w.heap.size ≤ R) (i : Nat) (u : Value) : Only S w (w1.setCell ⟨R, i, none⟩ u) :=
  ⟨h.os, h.tape, h.output, by simpa using h.size, fun k hk hn => (heap_setCell_other w1 ⟨R, i, none⟩ k u (fun e => by simp at e; omega)).trans (h.block k hk hn)⟩
theorem only_11 {w w1 : World} {S : List Nat} {R : Nat} {u0 u1 u2 u3 u4 u5 u6 u7 u8 u9 u10 : Value} (h : Only S w w1) (hR : w.heap.size ≤ R) : Only S w (((((((((((w1.setCell ⟨R, 0, none⟩ u0).setCell ⟨R, 1, none⟩ u1).setCell ⟨R, 2, none⟩ u2).setCell ⟨R, 3, none⟩ u3).setCell ⟨R, 4, none⟩ u4).setCell ⟨R, 5, none⟩ u5).setCell ⟨R, 6, none⟩ u6).setCell ⟨R, 7, none⟩ u7).setCell ⟨R, 8, none⟩ u8).setCell ⟨R, 9, none⟩ u9).setCell ⟨R, 10, none⟩ u10) :=
  (only_set (only_set (only_set (only_set (only_set (only_set (only_set (only_set (only_set (only_set (only_set h hR 0 u0) hR 1 u1) hR 2 u2) hR 3 u3) hR 4 u4) hR 5 u5) hR 6 u6) hR 7 u7) hR 8 u8) hR 9 u9) hR 10 u10)
theorem cur_11 {w1 : World} {g p R : Nat} {bv ev u0 u1 u2 u3 u4 u5 u6 u7 u8 u9 u10 : Value} (h : Cur w1 g bv p ev) (hR : some g ≠ some R) : Cur (((((((((((w1.setCell ⟨R, 0, none⟩ u0).setCell ⟨R, 1, none⟩ u1).setCell ⟨R, 2, none⟩ u2).setCell ⟨R, 3, none⟩ u3).setCell ⟨R, 4, none⟩ u4).setCell ⟨R, 5, none⟩ u5).setCell ⟨R, 6, none⟩ u6).setCell ⟨R, 7, none⟩ u7).setCell ⟨R, 8, none⟩ u8).setCell ⟨R, 9, none⟩ u9).setCell ⟨R, 10, none⟩ u10) g bv p ev :=
  (Cur.kept (Cur.kept (Cur.kept (Cur.kept (Cur.kept (Cur.kept (Cur.kept (Cur.kept (Cur.kept (Cur.kept (Cur.kept h (grown_cell _ R 0 u0) hR) (grown_cell _ R 1 u1) hR) (grown_cell _ R 2 u2) hR) (grown_cell _ R 3 u3) hR) (grown_cell _ R 4 u4) hR) (grown_cell _ R 5 u5) hR) (grown_cell _ R 6 u6) hR) (grown_cell _ R 7 u7) hR) (grown_cell _ R 8 u8) hR) (grown_cell _ R 9 u9) hR) (grown_cell _ R 10 u10) hR)
theorem ownb_11 {w1 : World} {B R : Nat} {v u0 u1 u2 u3 u4 u5 u6 u7 u8 u9 u10 : Value} {zs : List Int} (h : OwnB w1 B v zs) (hR : R < B) : OwnB (((((((((((w1.setCell ⟨R, 0, none⟩ u0).setCell ⟨R, 1, none⟩ u1).setCell ⟨R, 2, none⟩ u2).setCell ⟨R, 3, none⟩ u3).setCell ⟨R, 4, none⟩ u4).setCell ⟨R, 5, none⟩ u5).setCell ⟨R, 6, none⟩ u6).setCell ⟨R, 7, none⟩ u7).setCell ⟨R, 8, none⟩ u8).setCell ⟨R, 9, none⟩ u9).setCell ⟨R, 10, none⟩ u10) B v zs :=
  (OwnB.setBelow (OwnB.setBelow (OwnB.setBelow (OwnB.setBelow (OwnB.setBelow (OwnB.setBelow (OwnB.setBelow (OwnB.setBelow (OwnB.setBelow (OwnB.setBelow (OwnB.setBelow h (a := ⟨R, 0, none⟩) hR u0) (a := ⟨R, 1, none⟩) hR u1) (a := ⟨R, 2, none⟩) hR u2) (a := ⟨R, 3, none⟩) hR u3) (a := ⟨R, 4, none⟩) hR u4) (a := ⟨R, 5, none⟩) hR u5) (a := ⟨R, 6, none⟩) hR u6) (a := ⟨R, 7, none⟩) hR u7) (a := ⟨R, 8, none⟩) hR u8) (a := ⟨R, 9, none⟩) hR u9) (a := ⟨R, 10, none⟩) hR u10)
theorem has_lit (F : Nat) (x fl : Int) (b : Bool) (w : World) (h : w.cell? ⟨F, 4, none⟩ = some (.int .i64 x)) (hb : (bits .and .i64 x fl != 0) = b) : Calls Tryd.prog 46 #[.pointer (some ⟨F, 0, none⟩), .int .i64 fl] w fun e w' => e = .returned (.bool b) ∧ w' = w := by
  have k := has_walk F x fl w h
  rw [hb] at k
  exact k
end Go.Proofs.YtakoagfeiolkjaaDoor
