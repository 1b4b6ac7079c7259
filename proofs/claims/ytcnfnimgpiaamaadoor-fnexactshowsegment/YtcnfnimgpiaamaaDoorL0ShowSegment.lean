/-
Contracts of functions of this seat.
-/
import Derived.Test.YtcnfnimgpiaamaaDoorRows
import Derived.WalkKit
import Derived.ProofKit
import Derived.OpenShut
import Derived.Test.YtcnfnimgpiaamaaDoorLkp
namespace Go.Proofs.YtcnfnimgpiaamaaDoor
open Go.ChangeShapes Go.WideShapes Go.ChangeAt Go.RowKit
set_option linter.unusedVariables false
set_option maxRecDepth 100000
abbrev InShowSegment0 (w w' : World) (g h : Nat) (x0_0 : Int) (x0_1 : Int) (x0_2 : Int) (x0_3 : Int) (x0_4 : Int) (x0_5 : Int) (x0_6 : Int) (x0_7 : Bool) (x0_8 : Int) (x0_9 : Bool) (o0_a0 s0_a0 : Option Addr) (n0_0 o0_k0 s0_k0 : Nat) (o0_a1 s0_a1 : Option Addr) (n0_1 o0_k1 s0_k1 : Nat) : Prop := Below w.heap.size w w' ∧ g < w'.heap.size ∧ h < w'.heap.size ∧ w'.cell? ⟨g, 0, none⟩ = some (.int .i64 x0_0) ∧ w'.cell? ⟨g, 1, none⟩ = some (.int .i64 x0_1) ∧ w'.cell? ⟨g, 2, none⟩ = some (.int .i64 x0_2) ∧ w'.cell? ⟨g, 3, none⟩ = some (.int .i64 x0_3) ∧ w'.cell? ⟨g, 4, none⟩ = some (.int .i64 x0_4) ∧ w'.cell? ⟨g, 5, none⟩ = some (.int .i64 x0_5) ∧ w'.cell? ⟨g, 6, none⟩ = some (.int .i64 x0_6) ∧ w'.cell? ⟨g, 7, none⟩ = some (.bool x0_7) ∧ w'.cell? ⟨g, 8, none⟩ = some (.int .i64 x0_8) ∧ w'.cell? ⟨g, 9, none⟩ = some (.bool x0_9) ∧ w'.cell? ⟨g, 10, none⟩ = some (.slice o0_a0 n0_0 o0_k0) ∧ w'.cell? ⟨g, 11, none⟩ = some (.slice o0_a1 n0_1 o0_k1) ∧ w'.cell? ⟨h, 0, none⟩ = some (.int .i64 x0_0) ∧ w'.cell? ⟨h, 1, none⟩ = some (.int .i64 x0_1) ∧ w'.cell? ⟨h, 2, none⟩ = some (.int .i64 x0_2) ∧ w'.cell? ⟨h, 3, none⟩ = some (.int .i64 x0_3) ∧ w'.cell? ⟨h, 4, none⟩ = some (.int .i64 x0_4) ∧ w'.cell? ⟨h, 5, none⟩ = some (.int .i64 x0_5) ∧ w'.cell? ⟨h, 6, none⟩ = some (.int .i64 x0_6) ∧ w'.cell? ⟨h, 7, none⟩ = some (.bool x0_7) ∧ w'.cell? ⟨h, 8, none⟩ = some (.int .i64 x0_8) ∧ w'.cell? ⟨h, 9, none⟩ = some (.bool x0_9) ∧ w'.cell? ⟨h, 10, none⟩ = some (.slice s0_a0 n0_0 s0_k0) ∧ w'.cell? ⟨h, 11, none⟩ = some (.slice s0_a1 n0_1 s0_k1)
theorem InShowSegment0.next {w w' w2 : World} {g h : Nat} {x0_0 : Int} {x0_1 : Int} {x0_2 : Int} {x0_3 : Int} {x0_4 : Int} {x0_5 : Int} {x0_6 : Int} {x0_7 : Bool} {x0_8 : Int} {x0_9 : Bool} {o0_a0 s0_a0 : Option Addr} {n0_0 o0_k0 s0_k0 : Nat} {o0_a1 s0_a1 : Option Addr} {n0_1 o0_k1 s0_k1 : Nat} (H : InShowSegment0 w w' g h x0_0 x0_1 x0_2 x0_3 x0_4 x0_5 x0_6 x0_7 x0_8 x0_9 o0_a0 s0_a0 n0_0 o0_k0 s0_k0 o0_a1 s0_a1 n0_1 o0_k1 s0_k1) (hb : Below w'.heap.size w' w2) : InShowSegment0 w w2 g h x0_0 x0_1 x0_2 x0_3 x0_4 x0_5 x0_6 x0_7 x0_8 x0_9 o0_a0 s0_a0 n0_0 o0_k0 s0_k0 o0_a1 s0_a1 n0_1 o0_k1 s0_k1 := by
  obtain ⟨h1, h2, h3, k0, k1, k2, k3, k4, k5, k6, k7, k8, k9, k10, k11, l0, l1, l2, l3, l4, l5, l6, l7, l8, l9, l10, l11⟩ := H
  exact ⟨below_on h1 hb, Nat.lt_of_lt_of_le h2 hb.size, Nat.lt_of_lt_of_le h3 hb.size, by rw [hb.cell (p := ⟨g, 0, none⟩) h2]; exact k0, by rw [hb.cell (p := ⟨g, 1, none⟩) h2]; exact k1, by rw [hb.cell (p := ⟨g, 2, none⟩) h2]; exact k2, by rw [hb.cell (p := ⟨g, 3, none⟩) h2]; exact k3, by rw [hb.cell (p := ⟨g, 4, none⟩) h2]; exact k4, by rw [hb.cell (p := ⟨g, 5, none⟩) h2]; exact k5, by rw [hb.cell (p := ⟨g, 6, none⟩) h2]; exact k6, by rw [hb.cell (p := ⟨g, 7, none⟩) h2]; exact k7, by rw [hb.cell (p := ⟨g, 8, none⟩) h2]; exact k8, by rw [hb.cell (p := ⟨g, 9, none⟩) h2]; exact k9, by rw [hb.cell (p := ⟨g, 10, none⟩) h2]; exact k10, by rw [hb.cell (p := ⟨g, 11, none⟩) h2]; exact k11, by rw [hb.cell (p := ⟨h, 0, none⟩) h3]; exact l0, by rw [hb.cell (p := ⟨h, 1, none⟩) h3]; exact l1, by rw [hb.cell (p := ⟨h, 2, none⟩) h3]; exact l2, by rw [hb.cell (p := ⟨h, 3, none⟩) h3]; exact l3, by rw [hb.cell (p := ⟨h, 4, none⟩) h3]; exact l4, by rw [hb.cell (p := ⟨h, 5, none⟩) h3]; exact l5, by rw [hb.cell (p := ⟨h, 6, none⟩) h3]; exact l6, by rw [hb.cell (p := ⟨h, 7, none⟩) h3]; exact l7, by rw [hb.cell (p := ⟨h, 8, none⟩) h3]; exact l8, by rw [hb.cell (p := ⟨h, 9, none⟩) h3]; exact l9, by rw [hb.cell (p := ⟨h, 10, none⟩) h3]; exact l10, by rw [hb.cell (p := ⟨h, 11, none⟩) h3]; exact l11⟩
theorem InShowSegment0.start {w w' : World} {g h : Nat} {tg th : Nat} {x0_0 : Int} {x0_1 : Int} {x0_2 : Int} {x0_3 : Int} {x0_4 : Int} {x0_5 : Int} {x0_6 : Int} {x0_7 : Bool} {x0_8 : Int} {x0_9 : Bool} {o0_a0 s0_a0 : Option Addr} {n0_0 o0_k0 s0_k0 : Nat} {o0_a1 s0_a1 : Option Addr} {n0_1 o0_k1 s0_k1 : Nat} (hw : Below w.heap.size w w') (hg : w'.heap[g]? = some (.cells #[.int .i64 x0_0, .int .i64 x0_1, .int .i64 x0_2, .int .i64 x0_3, .int .i64 x0_4, .int .i64 x0_5, .int .i64 x0_6, .bool x0_7, .int .i64 x0_8, .bool x0_9, .slice o0_a0 n0_0 o0_k0, .slice o0_a1 n0_1 o0_k1] tg)) (hh : w'.heap[h]? = some (.cells #[.int .i64 x0_0, .int .i64 x0_1, .int .i64 x0_2, .int .i64 x0_3, .int .i64 x0_4, .int .i64 x0_5, .int .i64 x0_6, .bool x0_7, .int .i64 x0_8, .bool x0_9, .slice s0_a0 n0_0 s0_k0, .slice s0_a1 n0_1 s0_k1] th)) : InShowSegment0 w w' g h x0_0 x0_1 x0_2 x0_3 x0_4 x0_5 x0_6 x0_7 x0_8 x0_9 o0_a0 s0_a0 n0_0 o0_k0 s0_k0 o0_a1 s0_a1 n0_1 o0_k1 s0_k1 :=
  ⟨hw, (Array.getElem?_eq_some_iff.1 hg).1, (Array.getElem?_eq_some_iff.1 hh).1, cell_of_row _ _ 0 _ _ _ hg, cell_of_row _ _ 1 _ _ _ hg, cell_of_row _ _ 2 _ _ _ hg, cell_of_row _ _ 3 _ _ _ hg, cell_of_row _ _ 4 _ _ _ hg, cell_of_row _ _ 5 _ _ _ hg, cell_of_row _ _ 6 _ _ _ hg, cell_of_row _ _ 7 _ _ _ hg, cell_of_row _ _ 8 _ _ _ hg, cell_of_row _ _ 9 _ _ _ hg, cell_of_row _ _ 10 _ _ _ hg, cell_of_row _ _ 11 _ _ _ hg, cell_of_row _ _ 0 _ _ _ hh, cell_of_row _ _ 1 _ _ _ hh, cell_of_row _ _ 2 _ _ _ hh, cell_of_row _ _ 3 _ _ _ hh, cell_of_row _ _ 4 _ _ _ hh, cell_of_row _ _ 5 _ _ _ hh, cell_of_row _ _ 6 _ _ _ hh, cell_of_row _ _ 7 _ _ _ hh, cell_of_row _ _ 8 _ _ _ hh, cell_of_row _ _ 9 _ _ _ hh, cell_of_row _ _ 10 _ _ _ hh, cell_of_row _ _ 11 _ _ _ hh⟩
set_option maxHeartbeats 8000000 in
set_option maxRecDepth 100000 in
theorem walkShowSegment0 (w : World) (x0_0 : Int) (x0_1 : Int) (x0_2 : Int) (x0_3 : Int) (x0_4 : Int) (x0_5 : Int) (x0_6 : Int) (x0_7 : Bool) (x0_8 : Int) (x0_9 : Bool) (o0_a0 : Option Addr) (n0_0 o0_k0 : Nat) (o0_a1 : Option Addr) (n0_1 o0_k1 : Nat) (ds0 : List D) (C0 : ByteArray) (C1 : Int) (l0 : Int) (hl0 : 0 ≤ l0) (hZ0 : ∀ (W : World), Calls Tryd.prog 7 #[.agg #[.int .i64 x0_0, .int .i64 x0_1, .int .i64 x0_2, .int .i64 x0_3, .int .i64 x0_4, .int .i64 x0_5, .int .i64 x0_6, .bool x0_7, .int .i64 x0_8, .bool x0_9, .slice o0_a0 n0_0 o0_k0, .slice o0_a1 n0_1 o0_k1], .int .i64 1048576] W fun e w' => e = .returned (.int .i64 l0) ∧ Below W.heap.size W w') (hT0 : ∀ (W : World), Below w.heap.size w W → Calls Tryd.prog 9 #[.agg #[.int .i64 x0_0, .int .i64 x0_1, .int .i64 x0_2, .int .i64 x0_3, .int .i64 x0_4, .int .i64 x0_5, .int .i64 x0_6, .bool x0_7, .int .i64 x0_8, .bool x0_9, .slice o0_a0 n0_0 o0_k0, .slice o0_a1 n0_1 o0_k1]] W fun e w' => ∃ (c0_a0 : Option Addr) (c0_k0 : Nat) (c0_a1 : Option Addr) (c0_k1 : Nat) (bs : List Nat), e = .returned (.agg #[.int .i64 x0_0, .int .i64 x0_1, .int .i64 x0_2, .int .i64 x0_3, .int .i64 x0_4, .int .i64 x0_5, .int .i64 x0_6, .bool x0_7, .int .i64 x0_8, .bool x0_9, .slice c0_a0 n0_0 c0_k0, .slice c0_a1 n0_1 c0_k1]) ∧ HoldsL w' W.heap.size ds0 [.slice c0_a0 n0_0 c0_k0, .slice c0_a1 n0_1 c0_k1] bs ∧ bs.Nodup ∧ Below W.heap.size W w') (hS : ∀ (W : World) (c0_a0 : Option Addr) (c0_k0 : Nat) (c0_a1 : Option Addr) (c0_k1 : Nat) (B0 : Nat) (bs0 : List Nat), Below w.heap.size w W → HoldsL W B0 ds0 [.slice c0_a0 n0_0 c0_k0, .slice c0_a1 n0_1 c0_k1] bs0 → Calls Tryd.prog 8 #[.agg #[.int .i64 x0_0, .int .i64 x0_1, .int .i64 x0_2, .int .i64 x0_3, .int .i64 x0_4, .int .i64 x0_5, .int .i64 x0_6, .bool x0_7, .int .i64 x0_8, .bool x0_9, .slice c0_a0 n0_0 c0_k0, .slice c0_a1 n0_1 c0_k1]] W fun e w' => e = .returned (.tuple #[.string C0, .int .i64 C1]) ∧ Below W.heap.size W w') (hI : ∀ (W : World) (c0_a0 : Option Addr) (c0_k0 : Nat) (c0_a1 : Option Addr) (c0_k1 : Nat) (B0 : Nat) (bs0 : List Nat), Below w.heap.size w W → HoldsL W B0 ds0 [.slice c0_a0 n0_0 c0_k0, .slice c0_a1 n0_1 c0_k1] bs0 → Calls Tryd.prog 10 #[.agg #[.int .i64 x0_0, .int .i64 x0_1, .int .i64 x0_2, .int .i64 x0_3, .int .i64 x0_4, .int .i64 x0_5, .int .i64 x0_6, .bool x0_7, .int .i64 x0_8, .bool x0_9, .slice c0_a0 n0_0 c0_k0, .slice c0_a1 n0_1 c0_k1]] W fun e w' => e = .returned (.tuple #[.string C0, .int .i64 C1]) ∧ Below W.heap.size W w') (hE0 : ∀ (W : World) (c0_a0 : Option Addr) (c0_k0 : Nat) (c0_a1 : Option Addr) (c0_k1 : Nat) (e0_a0 : Option Addr) (e0_k0 : Nat) (e0_a1 : Option Addr) (e0_k1 : Nat) (B1 B2 : Nat) (b1 b2 : List Nat), HoldsL W B1 ds0 [.slice c0_a0 n0_0 c0_k0, .slice c0_a1 n0_1 c0_k1] b1 → HoldsL W B2 ds0 [.slice e0_a0 n0_0 e0_k0, .slice e0_a1 n0_1 e0_k1] b2 → Calls Tryd.prog 11 #[.agg #[.int .i64 x0_0, .int .i64 x0_1, .int .i64 x0_2, .int .i64 x0_3, .int .i64 x0_4, .int .i64 x0_5, .int .i64 x0_6, .bool x0_7, .int .i64 x0_8, .bool x0_9, .slice c0_a0 n0_0 c0_k0, .slice c0_a1 n0_1 c0_k1], .agg #[.int .i64 x0_0, .int .i64 x0_1, .int .i64 x0_2, .int .i64 x0_3, .int .i64 x0_4, .int .i64 x0_5, .int .i64 x0_6, .bool x0_7, .int .i64 x0_8, .bool x0_9, .slice e0_a0 n0_0 e0_k0, .slice e0_a1 n0_1 e0_k1]] W fun e w' => e = .returned (.bool true) ∧ Below W.heap.size W w') :
    Calls Tryd.prog 3 #[.agg #[.int .i64 x0_0, .int .i64 x0_1, .int .i64 x0_2, .int .i64 x0_3, .int .i64 x0_4, .int .i64 x0_5, .int .i64 x0_6, .bool x0_7, .int .i64 x0_8, .bool x0_9, .slice o0_a0 n0_0 o0_k0, .slice o0_a1 n0_1 o0_k1]] w fun e w' => e = .returned (.bool true) ∧ Below w.heap.size w w' := by
  have HhT0 := hide hT0
  have HhS := hide hS
  have HhI := hide hI
  have HhE0 := hide hE0
  have HhZ0 := hide hZ0
  clear hT0 hS hI hE0 hZ0
  have HW := hide (Below.refl w.heap.size w)
  have hal := (Below.refl (w).heap.size (w)).alloc (Nat.le_refl _) (.cells #[.int .i64 x0_0, .int .i64 x0_1, .int .i64 x0_2, .int .i64 x0_3, .int .i64 x0_4, .int .i64 x0_5, .int .i64 x0_6, .bool x0_7, .int .i64 x0_8, .bool x0_9, .slice o0_a0 n0_0 o0_k0, .slice o0_a1 n0_1 o0_k1] 25)
  have hsz0 := World.size_alloc (w) (.cells #[.int .i64 x0_0, .int .i64 x0_1, .int .i64 x0_2, .int .i64 x0_3, .int .i64 x0_4, .int .i64 x0_5, .int .i64 x0_6, .bool x0_7, .int .i64 x0_8, .bool x0_9, .slice o0_a0 n0_0 o0_k0, .slice o0_a1 n0_1 o0_k1] 25)
  have Hax0 := hide (Keep.new (w) (.cells #[.int .i64 x0_0, .int .i64 x0_1, .int .i64 x0_2, .int .i64 x0_3, .int .i64 x0_4, .int .i64 x0_5, .int .i64 x0_6, .bool x0_7, .int .i64 x0_8, .bool x0_9, .slice o0_a0 n0_0 o0_k0, .slice o0_a1 n0_1 o0_k1] 25))
  replace HW := hide (below_on HW.out hal)
  clear hal
  have c_ax0_0 : ((w).alloc (.cells #[.int .i64 x0_0, .int .i64 x0_1, .int .i64 x0_2, .int .i64 x0_3, .int .i64 x0_4, .int .i64 x0_5, .int .i64 x0_6, .bool x0_7, .int .i64 x0_8, .bool x0_9, .slice o0_a0 n0_0 o0_k0, .slice o0_a1 n0_1 o0_k1] 25)).cell? ⟨w.heap.size, 0, none⟩ = some (.int .i64 x0_0) := cell_of_row _ _ 0 _ _ _ Hax0.out.here
  have c_ax0_1 : ((w).alloc (.cells #[.int .i64 x0_0, .int .i64 x0_1, .int .i64 x0_2, .int .i64 x0_3, .int .i64 x0_4, .int .i64 x0_5, .int .i64 x0_6, .bool x0_7, .int .i64 x0_8, .bool x0_9, .slice o0_a0 n0_0 o0_k0, .slice o0_a1 n0_1 o0_k1] 25)).cell? ⟨w.heap.size, 1, none⟩ = some (.int .i64 x0_1) := cell_of_row _ _ 1 _ _ _ Hax0.out.here
  have c_ax0_2 : ((w).alloc (.cells #[.int .i64 x0_0, .int .i64 x0_1, .int .i64 x0_2, .int .i64 x0_3, .int .i64 x0_4, .int .i64 x0_5, .int .i64 x0_6, .bool x0_7, .int .i64 x0_8, .bool x0_9, .slice o0_a0 n0_0 o0_k0, .slice o0_a1 n0_1 o0_k1] 25)).cell? ⟨w.heap.size, 2, none⟩ = some (.int .i64 x0_2) := cell_of_row _ _ 2 _ _ _ Hax0.out.here
  have c_ax0_3 : ((w).alloc (.cells #[.int .i64 x0_0, .int .i64 x0_1, .int .i64 x0_2, .int .i64 x0_3, .int .i64 x0_4, .int .i64 x0_5, .int .i64 x0_6, .bool x0_7, .int .i64 x0_8, .bool x0_9, .slice o0_a0 n0_0 o0_k0, .slice o0_a1 n0_1 o0_k1] 25)).cell? ⟨w.heap.size, 3, none⟩ = some (.int .i64 x0_3) := cell_of_row _ _ 3 _ _ _ Hax0.out.here
  have c_ax0_4 : ((w).alloc (.cells #[.int .i64 x0_0, .int .i64 x0_1, .int .i64 x0_2, .int .i64 x0_3, .int .i64 x0_4, .int .i64 x0_5, .int .i64 x0_6, .bool x0_7, .int .i64 x0_8, .bool x0_9, .slice o0_a0 n0_0 o0_k0, .slice o0_a1 n0_1 o0_k1] 25)).cell? ⟨w.heap.size, 4, none⟩ = some (.int .i64 x0_4) := cell_of_row _ _ 4 _ _ _ Hax0.out.here
  have c_ax0_5 : ((w).alloc (.cells #[.int .i64 x0_0, .int .i64 x0_1, .int .i64 x0_2, .int .i64 x0_3, .int .i64 x0_4, .int .i64 x0_5, .int .i64 x0_6, .bool x0_7, .int .i64 x0_8, .bool x0_9, .slice o0_a0 n0_0 o0_k0, .slice o0_a1 n0_1 o0_k1] 25)).cell? ⟨w.heap.size, 5, none⟩ = some (.int .i64 x0_5) := cell_of_row _ _ 5 _ _ _ Hax0.out.here
  have c_ax0_6 : ((w).alloc (.cells #[.int .i64 x0_0, .int .i64 x0_1, .int .i64 x0_2, .int .i64 x0_3, .int .i64 x0_4, .int .i64 x0_5, .int .i64 x0_6, .bool x0_7, .int .i64 x0_8, .bool x0_9, .slice o0_a0 n0_0 o0_k0, .slice o0_a1 n0_1 o0_k1] 25)).cell? ⟨w.heap.size, 6, none⟩ = some (.int .i64 x0_6) := cell_of_row _ _ 6 _ _ _ Hax0.out.here
  have c_ax0_7 : ((w).alloc (.cells #[.int .i64 x0_0, .int .i64 x0_1, .int .i64 x0_2, .int .i64 x0_3, .int .i64 x0_4, .int .i64 x0_5, .int .i64 x0_6, .bool x0_7, .int .i64 x0_8, .bool x0_9, .slice o0_a0 n0_0 o0_k0, .slice o0_a1 n0_1 o0_k1] 25)).cell? ⟨w.heap.size, 7, none⟩ = some (.bool x0_7) := cell_of_row _ _ 7 _ _ _ Hax0.out.here
  have c_ax0_8 : ((w).alloc (.cells #[.int .i64 x0_0, .int .i64 x0_1, .int .i64 x0_2, .int .i64 x0_3, .int .i64 x0_4, .int .i64 x0_5, .int .i64 x0_6, .bool x0_7, .int .i64 x0_8, .bool x0_9, .slice o0_a0 n0_0 o0_k0, .slice o0_a1 n0_1 o0_k1] 25)).cell? ⟨w.heap.size, 8, none⟩ = some (.int .i64 x0_8) := cell_of_row _ _ 8 _ _ _ Hax0.out.here
  have c_ax0_9 : ((w).alloc (.cells #[.int .i64 x0_0, .int .i64 x0_1, .int .i64 x0_2, .int .i64 x0_3, .int .i64 x0_4, .int .i64 x0_5, .int .i64 x0_6, .bool x0_7, .int .i64 x0_8, .bool x0_9, .slice o0_a0 n0_0 o0_k0, .slice o0_a1 n0_1 o0_k1] 25)).cell? ⟨w.heap.size, 9, none⟩ = some (.bool x0_9) := cell_of_row _ _ 9 _ _ _ Hax0.out.here
  have c_ax0_10 : ((w).alloc (.cells #[.int .i64 x0_0, .int .i64 x0_1, .int .i64 x0_2, .int .i64 x0_3, .int .i64 x0_4, .int .i64 x0_5, .int .i64 x0_6, .bool x0_7, .int .i64 x0_8, .bool x0_9, .slice o0_a0 n0_0 o0_k0, .slice o0_a1 n0_1 o0_k1] 25)).cell? ⟨w.heap.size, 10, none⟩ = some (.slice o0_a0 n0_0 o0_k0) := cell_of_row _ _ 10 _ _ _ Hax0.out.here
  have c_ax0_11 : ((w).alloc (.cells #[.int .i64 x0_0, .int .i64 x0_1, .int .i64 x0_2, .int .i64 x0_3, .int .i64 x0_4, .int .i64 x0_5, .int .i64 x0_6, .bool x0_7, .int .i64 x0_8, .bool x0_9, .slice o0_a0 n0_0 o0_k0, .slice o0_a1 n0_1 o0_k1] 25)).cell? ⟨w.heap.size, 11, none⟩ = some (.slice o0_a1 n0_1 o0_k1) := cell_of_row _ _ 11 _ _ _ Hax0.out.here
  go_enter Tryd.func3, Tryd.ntmps3
  go_wp2_with fail
  generalize (w).alloc (.cells #[.int .i64 x0_0, .int .i64 x0_1, .int .i64 x0_2, .int .i64 x0_3, .int .i64 x0_4, .int .i64 x0_5, .int .i64 x0_6, .bool x0_7, .int .i64 x0_8, .bool x0_9, .slice o0_a0 n0_0 o0_k0, .slice o0_a1 n0_1 o0_k1] 25) = V0 at *
  have z0 : w.heap.size ≤ V0.heap.size := HW.out.size
  refine (HhZ0.out _).mono ?_
  rintro e u1 ⟨rfl, hb⟩
  clear c_ax0_0 c_ax0_1 c_ax0_2 c_ax0_3 c_ax0_4 c_ax0_5 c_ax0_6 c_ax0_7 c_ax0_8 c_ax0_9 c_ax0_10 c_ax0_11
  replace Hax0 := hide (Hax0.out.next hb)
  replace HW := hide (below_on HW.out hb)
  have z1 := hb.size
  clear hb
  clear HhZ0
  have c_ax0_0 : (u1).cell? ⟨w.heap.size, 0, none⟩ = some (.int .i64 x0_0) := cell_of_row _ _ 0 _ _ _ Hax0.out.here
  have c_ax0_1 : (u1).cell? ⟨w.heap.size, 1, none⟩ = some (.int .i64 x0_1) := cell_of_row _ _ 1 _ _ _ Hax0.out.here
  have c_ax0_2 : (u1).cell? ⟨w.heap.size, 2, none⟩ = some (.int .i64 x0_2) := cell_of_row _ _ 2 _ _ _ Hax0.out.here
  have c_ax0_3 : (u1).cell? ⟨w.heap.size, 3, none⟩ = some (.int .i64 x0_3) := cell_of_row _ _ 3 _ _ _ Hax0.out.here
  have c_ax0_4 : (u1).cell? ⟨w.heap.size, 4, none⟩ = some (.int .i64 x0_4) := cell_of_row _ _ 4 _ _ _ Hax0.out.here
  have c_ax0_5 : (u1).cell? ⟨w.heap.size, 5, none⟩ = some (.int .i64 x0_5) := cell_of_row _ _ 5 _ _ _ Hax0.out.here
  have c_ax0_6 : (u1).cell? ⟨w.heap.size, 6, none⟩ = some (.int .i64 x0_6) := cell_of_row _ _ 6 _ _ _ Hax0.out.here
  have c_ax0_7 : (u1).cell? ⟨w.heap.size, 7, none⟩ = some (.bool x0_7) := cell_of_row _ _ 7 _ _ _ Hax0.out.here
  have c_ax0_8 : (u1).cell? ⟨w.heap.size, 8, none⟩ = some (.int .i64 x0_8) := cell_of_row _ _ 8 _ _ _ Hax0.out.here
  have c_ax0_9 : (u1).cell? ⟨w.heap.size, 9, none⟩ = some (.bool x0_9) := cell_of_row _ _ 9 _ _ _ Hax0.out.here
  have c_ax0_10 : (u1).cell? ⟨w.heap.size, 10, none⟩ = some (.slice o0_a0 n0_0 o0_k0) := cell_of_row _ _ 10 _ _ _ Hax0.out.here
  have c_ax0_11 : (u1).cell? ⟨w.heap.size, 11, none⟩ = some (.slice o0_a1 n0_1 o0_k1) := cell_of_row _ _ 11 _ _ _ Hax0.out.here
  go_wp2_with fail
  refine (HhT0.out _ HW.out).mono ?_
  rintro e u2 ⟨r0_a0, r0_k0, r0_a1, r0_k1, rb0, rfl, ro0, rn0, hb⟩
  have Hrn0 := hide rn0
  clear rn0
  clear c_ax0_0 c_ax0_1 c_ax0_2 c_ax0_3 c_ax0_4 c_ax0_5 c_ax0_6 c_ax0_7 c_ax0_8 c_ax0_9 c_ax0_10 c_ax0_11
  replace Hax0 := hide (Hax0.out.next hb)
  replace HW := hide (below_on HW.out hb)
  have z2 := hb.size
  clear hb
  have lo_rd0 : ∀ b ∈ rb0, u1.heap.size ≤ b := fun b hb => (HoldsL.lt _ _ _ ro0 b hb).1
  have hi_rd0 : ∀ b ∈ rb0, b < u2.heap.size := fun b hb => (HoldsL.lt _ _ _ ro0 b hb).2
  have Hrd0 := hide (Keep.data ro0)
  clear ro0
  have Hlo_rd0 := hide lo_rd0
  have Hhi_rd0 := hide hi_rd0
  clear lo_rd0 hi_rd0
  go_wp2_with fail
  refine (HhS.out _ r0_a0 r0_k0 r0_a1 r0_k1 _ _ HW.out Hrd0.out.here).mono ?_
  rintro e u3 ⟨rfl, hb⟩
  replace Hax0 := hide (Hax0.out.next hb)
  replace Hrd0 := hide (Hrd0.out.next hb)
  replace HW := hide (below_on HW.out hb)
  have z3 := hb.size
  clear hb
  clear Hrd0
  clear Hlo_rd0 Hhi_rd0
  have c_ax0_0 : (u3).cell? ⟨w.heap.size, 0, none⟩ = some (.int .i64 x0_0) := cell_of_row _ _ 0 _ _ _ Hax0.out.here
  have c_ax0_1 : (u3).cell? ⟨w.heap.size, 1, none⟩ = some (.int .i64 x0_1) := cell_of_row _ _ 1 _ _ _ Hax0.out.here
  have c_ax0_2 : (u3).cell? ⟨w.heap.size, 2, none⟩ = some (.int .i64 x0_2) := cell_of_row _ _ 2 _ _ _ Hax0.out.here
  have c_ax0_3 : (u3).cell? ⟨w.heap.size, 3, none⟩ = some (.int .i64 x0_3) := cell_of_row _ _ 3 _ _ _ Hax0.out.here
  have c_ax0_4 : (u3).cell? ⟨w.heap.size, 4, none⟩ = some (.int .i64 x0_4) := cell_of_row _ _ 4 _ _ _ Hax0.out.here
  have c_ax0_5 : (u3).cell? ⟨w.heap.size, 5, none⟩ = some (.int .i64 x0_5) := cell_of_row _ _ 5 _ _ _ Hax0.out.here
  have c_ax0_6 : (u3).cell? ⟨w.heap.size, 6, none⟩ = some (.int .i64 x0_6) := cell_of_row _ _ 6 _ _ _ Hax0.out.here
  have c_ax0_7 : (u3).cell? ⟨w.heap.size, 7, none⟩ = some (.bool x0_7) := cell_of_row _ _ 7 _ _ _ Hax0.out.here
  have c_ax0_8 : (u3).cell? ⟨w.heap.size, 8, none⟩ = some (.int .i64 x0_8) := cell_of_row _ _ 8 _ _ _ Hax0.out.here
  have c_ax0_9 : (u3).cell? ⟨w.heap.size, 9, none⟩ = some (.bool x0_9) := cell_of_row _ _ 9 _ _ _ Hax0.out.here
  have c_ax0_10 : (u3).cell? ⟨w.heap.size, 10, none⟩ = some (.slice o0_a0 n0_0 o0_k0) := cell_of_row _ _ 10 _ _ _ Hax0.out.here
  have c_ax0_11 : (u3).cell? ⟨w.heap.size, 11, none⟩ = some (.slice o0_a1 n0_1 o0_k1) := cell_of_row _ _ 11 _ _ _ Hax0.out.here
  go_wp2_with fail
  have zz3 := HW.out.size
  refine (HhT0.out _ HW.out).mono ?_
  rintro e u4 ⟨s0_a0, s0_k0, s0_a1, s0_k1, sb0, rfl, so0, sn0, hb⟩
  have Hsn0 := hide sn0
  clear sn0
  clear c_ax0_0 c_ax0_1 c_ax0_2 c_ax0_3 c_ax0_4 c_ax0_5 c_ax0_6 c_ax0_7 c_ax0_8 c_ax0_9 c_ax0_10 c_ax0_11
  replace Hax0 := hide (Hax0.out.next hb)
  replace HW := hide (below_on HW.out hb)
  have z4 := hb.size
  clear hb
  have lo_sd0 : ∀ b ∈ sb0, u3.heap.size ≤ b := fun b hb => (HoldsL.lt _ _ _ so0 b hb).1
  have hi_sd0 : ∀ b ∈ sb0, b < u4.heap.size := fun b hb => (HoldsL.lt _ _ _ so0 b hb).2
  have Hsd0 := hide (Keep.data so0)
  clear so0
  have Hlo_sd0 := hide lo_sd0
  have Hhi_sd0 := hide hi_sd0
  clear lo_sd0 hi_sd0
  have hal := (Below.refl (u4).heap.size (u4)).alloc (Nat.le_refl _) (.cells #[.int .i64 x0_0, .int .i64 x0_1, .int .i64 x0_2, .int .i64 x0_3, .int .i64 x0_4, .int .i64 x0_5, .int .i64 x0_6, .bool x0_7, .int .i64 x0_8, .bool x0_9, .slice s0_a0 n0_0 s0_k0, .slice s0_a1 n0_1 s0_k1] 31)
  have hsz4 := World.size_alloc (u4) (.cells #[.int .i64 x0_0, .int .i64 x0_1, .int .i64 x0_2, .int .i64 x0_3, .int .i64 x0_4, .int .i64 x0_5, .int .i64 x0_6, .bool x0_7, .int .i64 x0_8, .bool x0_9, .slice s0_a0 n0_0 s0_k0, .slice s0_a1 n0_1 s0_k1] 31)
  have Hsx0 := hide (Keep.new (u4) (.cells #[.int .i64 x0_0, .int .i64 x0_1, .int .i64 x0_2, .int .i64 x0_3, .int .i64 x0_4, .int .i64 x0_5, .int .i64 x0_6, .bool x0_7, .int .i64 x0_8, .bool x0_9, .slice s0_a0 n0_0 s0_k0, .slice s0_a1 n0_1 s0_k1] 31))
  replace Hax0 := hide (Hax0.out.next hal)
  replace Hsd0 := hide (Hsd0.out.next hal)
  replace HW := hide (below_on HW.out hal)
  clear hal
  have c_ax0_0 : ((u4).alloc (.cells #[.int .i64 x0_0, .int .i64 x0_1, .int .i64 x0_2, .int .i64 x0_3, .int .i64 x0_4, .int .i64 x0_5, .int .i64 x0_6, .bool x0_7, .int .i64 x0_8, .bool x0_9, .slice s0_a0 n0_0 s0_k0, .slice s0_a1 n0_1 s0_k1] 31)).cell? ⟨w.heap.size, 0, none⟩ = some (.int .i64 x0_0) := cell_of_row _ _ 0 _ _ _ Hax0.out.here
  have c_ax0_1 : ((u4).alloc (.cells #[.int .i64 x0_0, .int .i64 x0_1, .int .i64 x0_2, .int .i64 x0_3, .int .i64 x0_4, .int .i64 x0_5, .int .i64 x0_6, .bool x0_7, .int .i64 x0_8, .bool x0_9, .slice s0_a0 n0_0 s0_k0, .slice s0_a1 n0_1 s0_k1] 31)).cell? ⟨w.heap.size, 1, none⟩ = some (.int .i64 x0_1) := cell_of_row _ _ 1 _ _ _ Hax0.out.here
  have c_ax0_2 : ((u4).alloc (.cells #[.int .i64 x0_0, .int .i64 x0_1, .int .i64 x0_2, .int .i64 x0_3, .int .i64 x0_4, .int .i64 x0_5, .int .i64 x0_6, .bool x0_7, .int .i64 x0_8, .bool x0_9, .slice s0_a0 n0_0 s0_k0, .slice s0_a1 n0_1 s0_k1] 31)).cell? ⟨w.heap.size, 2, none⟩ = some (.int .i64 x0_2) := cell_of_row _ _ 2 _ _ _ Hax0.out.here
  have c_ax0_3 : ((u4).alloc (.cells #[.int .i64 x0_0, .int .i64 x0_1, .int .i64 x0_2, .int .i64 x0_3, .int .i64 x0_4, .int .i64 x0_5, .int .i64 x0_6, .bool x0_7, .int .i64 x0_8, .bool x0_9, .slice s0_a0 n0_0 s0_k0, .slice s0_a1 n0_1 s0_k1] 31)).cell? ⟨w.heap.size, 3, none⟩ = some (.int .i64 x0_3) := cell_of_row _ _ 3 _ _ _ Hax0.out.here
  have c_ax0_4 : ((u4).alloc (.cells #[.int .i64 x0_0, .int .i64 x0_1, .int .i64 x0_2, .int .i64 x0_3, .int .i64 x0_4, .int .i64 x0_5, .int .i64 x0_6, .bool x0_7, .int .i64 x0_8, .bool x0_9, .slice s0_a0 n0_0 s0_k0, .slice s0_a1 n0_1 s0_k1] 31)).cell? ⟨w.heap.size, 4, none⟩ = some (.int .i64 x0_4) := cell_of_row _ _ 4 _ _ _ Hax0.out.here
  have c_ax0_5 : ((u4).alloc (.cells #[.int .i64 x0_0, .int .i64 x0_1, .int .i64 x0_2, .int .i64 x0_3, .int .i64 x0_4, .int .i64 x0_5, .int .i64 x0_6, .bool x0_7, .int .i64 x0_8, .bool x0_9, .slice s0_a0 n0_0 s0_k0, .slice s0_a1 n0_1 s0_k1] 31)).cell? ⟨w.heap.size, 5, none⟩ = some (.int .i64 x0_5) := cell_of_row _ _ 5 _ _ _ Hax0.out.here
  have c_ax0_6 : ((u4).alloc (.cells #[.int .i64 x0_0, .int .i64 x0_1, .int .i64 x0_2, .int .i64 x0_3, .int .i64 x0_4, .int .i64 x0_5, .int .i64 x0_6, .bool x0_7, .int .i64 x0_8, .bool x0_9, .slice s0_a0 n0_0 s0_k0, .slice s0_a1 n0_1 s0_k1] 31)).cell? ⟨w.heap.size, 6, none⟩ = some (.int .i64 x0_6) := cell_of_row _ _ 6 _ _ _ Hax0.out.here
  have c_ax0_7 : ((u4).alloc (.cells #[.int .i64 x0_0, .int .i64 x0_1, .int .i64 x0_2, .int .i64 x0_3, .int .i64 x0_4, .int .i64 x0_5, .int .i64 x0_6, .bool x0_7, .int .i64 x0_8, .bool x0_9, .slice s0_a0 n0_0 s0_k0, .slice s0_a1 n0_1 s0_k1] 31)).cell? ⟨w.heap.size, 7, none⟩ = some (.bool x0_7) := cell_of_row _ _ 7 _ _ _ Hax0.out.here
  have c_ax0_8 : ((u4).alloc (.cells #[.int .i64 x0_0, .int .i64 x0_1, .int .i64 x0_2, .int .i64 x0_3, .int .i64 x0_4, .int .i64 x0_5, .int .i64 x0_6, .bool x0_7, .int .i64 x0_8, .bool x0_9, .slice s0_a0 n0_0 s0_k0, .slice s0_a1 n0_1 s0_k1] 31)).cell? ⟨w.heap.size, 8, none⟩ = some (.int .i64 x0_8) := cell_of_row _ _ 8 _ _ _ Hax0.out.here
  have c_ax0_9 : ((u4).alloc (.cells #[.int .i64 x0_0, .int .i64 x0_1, .int .i64 x0_2, .int .i64 x0_3, .int .i64 x0_4, .int .i64 x0_5, .int .i64 x0_6, .bool x0_7, .int .i64 x0_8, .bool x0_9, .slice s0_a0 n0_0 s0_k0, .slice s0_a1 n0_1 s0_k1] 31)).cell? ⟨w.heap.size, 9, none⟩ = some (.bool x0_9) := cell_of_row _ _ 9 _ _ _ Hax0.out.here
  have c_ax0_10 : ((u4).alloc (.cells #[.int .i64 x0_0, .int .i64 x0_1, .int .i64 x0_2, .int .i64 x0_3, .int .i64 x0_4, .int .i64 x0_5, .int .i64 x0_6, .bool x0_7, .int .i64 x0_8, .bool x0_9, .slice s0_a0 n0_0 s0_k0, .slice s0_a1 n0_1 s0_k1] 31)).cell? ⟨w.heap.size, 10, none⟩ = some (.slice o0_a0 n0_0 o0_k0) := cell_of_row _ _ 10 _ _ _ Hax0.out.here
  have c_ax0_11 : ((u4).alloc (.cells #[.int .i64 x0_0, .int .i64 x0_1, .int .i64 x0_2, .int .i64 x0_3, .int .i64 x0_4, .int .i64 x0_5, .int .i64 x0_6, .bool x0_7, .int .i64 x0_8, .bool x0_9, .slice s0_a0 n0_0 s0_k0, .slice s0_a1 n0_1 s0_k1] 31)).cell? ⟨w.heap.size, 11, none⟩ = some (.slice o0_a1 n0_1 o0_k1) := cell_of_row _ _ 11 _ _ _ Hax0.out.here
  have c_sx0_0 : ((u4).alloc (.cells #[.int .i64 x0_0, .int .i64 x0_1, .int .i64 x0_2, .int .i64 x0_3, .int .i64 x0_4, .int .i64 x0_5, .int .i64 x0_6, .bool x0_7, .int .i64 x0_8, .bool x0_9, .slice s0_a0 n0_0 s0_k0, .slice s0_a1 n0_1 s0_k1] 31)).cell? ⟨u4.heap.size, 0, none⟩ = some (.int .i64 x0_0) := cell_of_row _ _ 0 _ _ _ Hsx0.out.here
  have c_sx0_1 : ((u4).alloc (.cells #[.int .i64 x0_0, .int .i64 x0_1, .int .i64 x0_2, .int .i64 x0_3, .int .i64 x0_4, .int .i64 x0_5, .int .i64 x0_6, .bool x0_7, .int .i64 x0_8, .bool x0_9, .slice s0_a0 n0_0 s0_k0, .slice s0_a1 n0_1 s0_k1] 31)).cell? ⟨u4.heap.size, 1, none⟩ = some (.int .i64 x0_1) := cell_of_row _ _ 1 _ _ _ Hsx0.out.here
  have c_sx0_2 : ((u4).alloc (.cells #[.int .i64 x0_0, .int .i64 x0_1, .int .i64 x0_2, .int .i64 x0_3, .int .i64 x0_4, .int .i64 x0_5, .int .i64 x0_6, .bool x0_7, .int .i64 x0_8, .bool x0_9, .slice s0_a0 n0_0 s0_k0, .slice s0_a1 n0_1 s0_k1] 31)).cell? ⟨u4.heap.size, 2, none⟩ = some (.int .i64 x0_2) := cell_of_row _ _ 2 _ _ _ Hsx0.out.here
  have c_sx0_3 : ((u4).alloc (.cells #[.int .i64 x0_0, .int .i64 x0_1, .int .i64 x0_2, .int .i64 x0_3, .int .i64 x0_4, .int .i64 x0_5, .int .i64 x0_6, .bool x0_7, .int .i64 x0_8, .bool x0_9, .slice s0_a0 n0_0 s0_k0, .slice s0_a1 n0_1 s0_k1] 31)).cell? ⟨u4.heap.size, 3, none⟩ = some (.int .i64 x0_3) := cell_of_row _ _ 3 _ _ _ Hsx0.out.here
  have c_sx0_4 : ((u4).alloc (.cells #[.int .i64 x0_0, .int .i64 x0_1, .int .i64 x0_2, .int .i64 x0_3, .int .i64 x0_4, .int .i64 x0_5, .int .i64 x0_6, .bool x0_7, .int .i64 x0_8, .bool x0_9, .slice s0_a0 n0_0 s0_k0, .slice s0_a1 n0_1 s0_k1] 31)).cell? ⟨u4.heap.size, 4, none⟩ = some (.int .i64 x0_4) := cell_of_row _ _ 4 _ _ _ Hsx0.out.here
  have c_sx0_5 : ((u4).alloc (.cells #[.int .i64 x0_0, .int .i64 x0_1, .int .i64 x0_2, .int .i64 x0_3, .int .i64 x0_4, .int .i64 x0_5, .int .i64 x0_6, .bool x0_7, .int .i64 x0_8, .bool x0_9, .slice s0_a0 n0_0 s0_k0, .slice s0_a1 n0_1 s0_k1] 31)).cell? ⟨u4.heap.size, 5, none⟩ = some (.int .i64 x0_5) := cell_of_row _ _ 5 _ _ _ Hsx0.out.here
  have c_sx0_6 : ((u4).alloc (.cells #[.int .i64 x0_0, .int .i64 x0_1, .int .i64 x0_2, .int .i64 x0_3, .int .i64 x0_4, .int .i64 x0_5, .int .i64 x0_6, .bool x0_7, .int .i64 x0_8, .bool x0_9, .slice s0_a0 n0_0 s0_k0, .slice s0_a1 n0_1 s0_k1] 31)).cell? ⟨u4.heap.size, 6, none⟩ = some (.int .i64 x0_6) := cell_of_row _ _ 6 _ _ _ Hsx0.out.here
  have c_sx0_7 : ((u4).alloc (.cells #[.int .i64 x0_0, .int .i64 x0_1, .int .i64 x0_2, .int .i64 x0_3, .int .i64 x0_4, .int .i64 x0_5, .int .i64 x0_6, .bool x0_7, .int .i64 x0_8, .bool x0_9, .slice s0_a0 n0_0 s0_k0, .slice s0_a1 n0_1 s0_k1] 31)).cell? ⟨u4.heap.size, 7, none⟩ = some (.bool x0_7) := cell_of_row _ _ 7 _ _ _ Hsx0.out.here
  have c_sx0_8 : ((u4).alloc (.cells #[.int .i64 x0_0, .int .i64 x0_1, .int .i64 x0_2, .int .i64 x0_3, .int .i64 x0_4, .int .i64 x0_5, .int .i64 x0_6, .bool x0_7, .int .i64 x0_8, .bool x0_9, .slice s0_a0 n0_0 s0_k0, .slice s0_a1 n0_1 s0_k1] 31)).cell? ⟨u4.heap.size, 8, none⟩ = some (.int .i64 x0_8) := cell_of_row _ _ 8 _ _ _ Hsx0.out.here
  have c_sx0_9 : ((u4).alloc (.cells #[.int .i64 x0_0, .int .i64 x0_1, .int .i64 x0_2, .int .i64 x0_3, .int .i64 x0_4, .int .i64 x0_5, .int .i64 x0_6, .bool x0_7, .int .i64 x0_8, .bool x0_9, .slice s0_a0 n0_0 s0_k0, .slice s0_a1 n0_1 s0_k1] 31)).cell? ⟨u4.heap.size, 9, none⟩ = some (.bool x0_9) := cell_of_row _ _ 9 _ _ _ Hsx0.out.here
  have c_sx0_10 : ((u4).alloc (.cells #[.int .i64 x0_0, .int .i64 x0_1, .int .i64 x0_2, .int .i64 x0_3, .int .i64 x0_4, .int .i64 x0_5, .int .i64 x0_6, .bool x0_7, .int .i64 x0_8, .bool x0_9, .slice s0_a0 n0_0 s0_k0, .slice s0_a1 n0_1 s0_k1] 31)).cell? ⟨u4.heap.size, 10, none⟩ = some (.slice s0_a0 n0_0 s0_k0) := cell_of_row _ _ 10 _ _ _ Hsx0.out.here
  have c_sx0_11 : ((u4).alloc (.cells #[.int .i64 x0_0, .int .i64 x0_1, .int .i64 x0_2, .int .i64 x0_3, .int .i64 x0_4, .int .i64 x0_5, .int .i64 x0_6, .bool x0_7, .int .i64 x0_8, .bool x0_9, .slice s0_a0 n0_0 s0_k0, .slice s0_a1 n0_1 s0_k1] 31)).cell? ⟨u4.heap.size, 11, none⟩ = some (.slice s0_a1 n0_1 s0_k1) := cell_of_row _ _ 11 _ _ _ Hsx0.out.here
  go_wp2_with fail
  generalize (u4).alloc (.cells #[.int .i64 x0_0, .int .i64 x0_1, .int .i64 x0_2, .int .i64 x0_3, .int .i64 x0_4, .int .i64 x0_5, .int .i64 x0_6, .bool x0_7, .int .i64 x0_8, .bool x0_9, .slice s0_a0 n0_0 s0_k0, .slice s0_a1 n0_1 s0_k1] 31) = V5 at *
  clear c_ax0_0 c_ax0_1 c_ax0_2 c_ax0_3 c_ax0_4 c_ax0_5 c_ax0_6 c_ax0_7 c_ax0_8 c_ax0_9 c_ax0_10 c_ax0_11 c_sx0_0 c_sx0_1 c_sx0_2 c_sx0_3 c_sx0_4 c_sx0_5 c_sx0_6 c_sx0_7 c_sx0_8 c_sx0_9 c_sx0_10 c_sx0_11
  refine (HhI.out _ s0_a0 s0_k0 s0_a1 s0_k1 _ _ HW.out Hsd0.out.here).mono ?_
  rintro e u6 ⟨rfl, hb⟩
  replace Hax0 := hide (Hax0.out.next hb)
  replace Hsd0 := hide (Hsd0.out.next hb)
  replace Hsx0 := hide (Hsx0.out.next hb)
  replace HW := hide (below_on HW.out hb)
  have z5 := hb.size
  clear hb
  go_wp2_with fail
  go_wp2_with fail
  have HI := hide (InShowSegment0.start HW.out Hax0.out.here Hsx0.out.here)
  go_region_held3 (fun w' => InShowSegment0 w w' w.heap.size u4.heap.size x0_0 x0_1 x0_2 x0_3 x0_4 x0_5 x0_6 x0_7 x0_8 x0_9 o0_a0 s0_a0 n0_0 o0_k0 s0_k0 o0_a1 s0_a1 n0_1 o0_k1 s0_k1) (with_reducible first | assumption | exact HI.out.next ((Below.refl _ _).drew) | exact InShowSegment0.next (by assumption) hb7 | exact InShowSegment0.next (by assumption) hb8)
    (first
      | (go_at_call 9; refine (HhT0.out _ (by assumption : InShowSegment0 w _ _ _ x0_0 x0_1 x0_2 x0_3 x0_4 x0_5 x0_6 x0_7 x0_8 x0_9 o0_a0 s0_a0 n0_0 o0_k0 s0_k0 o0_a1 s0_a1 n0_1 o0_k1 s0_k1).1).mono ?_; rintro e w7 ⟨t0_a0, t0_k0, t0_a1, t0_k1, tb0, rfl, to0, tn0, hb7⟩; have hsx := (Hsd0.out.next ((Below.refl _ _).drew)).next hb7)
      | (go_at_call 11; refine (HhE0.out _ s0_a0 s0_k0 s0_a1 s0_k1 t0_a0 t0_k0 t0_a1 t0_k1 _ _ _ _ hsx.here to0).mono ?_; rintro e w8 ⟨rfl, hb8⟩))
  have hb : Below u6.heap.size u6 w8 := (below_drew hb7).trans (hb8.mono hb7.size)
  clear hb7 hb8 hsx to0 tn0 HI
  replace Hax0 := hide (Hax0.out.next hb)
  replace Hsd0 := hide (Hsd0.out.next hb)
  replace Hsx0 := hide (Hsx0.out.next hb)
  replace HW := hide (below_on HW.out hb)
  have z6 := hb.size
  clear hb
  generalize w8 = u8 at *
  go_wp2_with fail
  go_ret
  exact ⟨rfl, HW.out⟩
end Go.Proofs.YtcnfnimgpiaamaaDoor
