/-
Contracts of functions of this seat.
-/
import Derived.Test.YthcmgnhfgplajaaDoorRows
import Derived.WalkKit
import Derived.ProofKit
import Derived.OpenShut
import Derived.Test.YthcmgnhfgplajaaDoorLkp
namespace Go.Proofs.YthcmgnhfgplajaaDoor
open Go.ChangeShapes Go.WideShapes Go.ChangeAt Go.RowKit
set_option linter.unusedVariables false
set_option maxRecDepth 100000
abbrev InEncodeSegment0 (w w' : World) (g h : Nat) (x0_0 : Int) (x0_1 : Int) (x0_2 : Int) (x0_3 : Int) (x0_4 : Int) (x0_5 : Int) (x0_6 : Int) (x0_7 : Bool) (x0_8 : Int) (x0_9 : Bool) (o0_a0 s0_a0 : Option Addr) (n0_0 o0_k0 s0_k0 : Nat) (o0_a1 s0_a1 : Option Addr) (n0_1 o0_k1 s0_k1 : Nat) : Prop := Below w.heap.size w w' ∧ g < w'.heap.size ∧ h < w'.heap.size ∧ w'.cell? ⟨g, 0, none⟩ = some (.int .i64 x0_0) ∧ w'.cell? ⟨g, 1, none⟩ = some (.int .i64 x0_1) ∧ w'.cell? ⟨g, 2, none⟩ = some (.int .i64 x0_2) ∧ w'.cell? ⟨g, 3, none⟩ = some (.int .i64 x0_3) ∧ w'.cell? ⟨g, 4, none⟩ = some (.int .i64 x0_4) ∧ w'.cell? ⟨g, 5, none⟩ = some (.int .i64 x0_5) ∧ w'.cell? ⟨g, 6, none⟩ = some (.int .i64 x0_6) ∧ w'.cell? ⟨g, 7, none⟩ = some (.bool x0_7) ∧ w'.cell? ⟨g, 8, none⟩ = some (.int .i64 x0_8) ∧ w'.cell? ⟨g, 9, none⟩ = some (.bool x0_9) ∧ w'.cell? ⟨g, 10, none⟩ = some (.slice o0_a0 n0_0 o0_k0) ∧ w'.cell? ⟨g, 11, none⟩ = some (.slice o0_a1 n0_1 o0_k1) ∧ w'.cell? ⟨h, 0, none⟩ = some (.int .i64 x0_0) ∧ w'.cell? ⟨h, 1, none⟩ = some (.int .i64 x0_1) ∧ w'.cell? ⟨h, 2, none⟩ = some (.int .i64 x0_2) ∧ w'.cell? ⟨h, 3, none⟩ = some (.int .i64 x0_3) ∧ w'.cell? ⟨h, 4, none⟩ = some (.int .i64 x0_4) ∧ w'.cell? ⟨h, 5, none⟩ = some (.int .i64 x0_5) ∧ w'.cell? ⟨h, 6, none⟩ = some (.int .i64 x0_6) ∧ w'.cell? ⟨h, 7, none⟩ = some (.bool x0_7) ∧ w'.cell? ⟨h, 8, none⟩ = some (.int .i64 x0_8) ∧ w'.cell? ⟨h, 9, none⟩ = some (.bool x0_9) ∧ w'.cell? ⟨h, 10, none⟩ = some (.slice s0_a0 n0_0 s0_k0) ∧ w'.cell? ⟨h, 11, none⟩ = some (.slice s0_a1 n0_1 s0_k1)
theorem InEncodeSegment0.next {w w' w2 : World} {g h : Nat} {x0_0 : Int} {x0_1 : Int} {x0_2 : Int} {x0_3 : Int} {x0_4 : Int} {x0_5 : Int} {x0_6 : Int} {x0_7 : Bool} {x0_8 : Int} {x0_9 : Bool} {o0_a0 s0_a0 : Option Addr} {n0_0 o0_k0 s0_k0 : Nat} {o0_a1 s0_a1 : Option Addr} {n0_1 o0_k1 s0_k1 : Nat} (H : InEncodeSegment0 w w' g h x0_0 x0_1 x0_2 x0_3 x0_4 x0_5 x0_6 x0_7 x0_8 x0_9 o0_a0 s0_a0 n0_0 o0_k0 s0_k0 o0_a1 s0_a1 n0_1 o0_k1 s0_k1) (hb : Below w'.heap.size w' w2) : InEncodeSegment0 w w2 g h x0_0 x0_1 x0_2 x0_3 x0_4 x0_5 x0_6 x0_7 x0_8 x0_9 o0_a0 s0_a0 n0_0 o0_k0 s0_k0 o0_a1 s0_a1 n0_1 o0_k1 s0_k1 := by
  obtain ⟨h1, h2, h3, k0, k1, k2, k3, k4, k5, k6, k7, k8, k9, k10, k11, l0, l1, l2, l3, l4, l5, l6, l7, l8, l9, l10, l11⟩ := H
  exact ⟨below_on h1 hb, Nat.lt_of_lt_of_le h2 hb.size, Nat.lt_of_lt_of_le h3 hb.size, by rw [hb.cell (p := ⟨g, 0, none⟩) h2]; exact k0, by rw [hb.cell (p := ⟨g, 1, none⟩) h2]; exact k1, by rw [hb.cell (p := ⟨g, 2, none⟩) h2]; exact k2, by rw [hb.cell (p := ⟨g, 3, none⟩) h2]; exact k3, by rw [hb.cell (p := ⟨g, 4, none⟩) h2]; exact k4, by rw [hb.cell (p := ⟨g, 5, none⟩) h2]; exact k5, by rw [hb.cell (p := ⟨g, 6, none⟩) h2]; exact k6, by rw [hb.cell (p := ⟨g, 7, none⟩) h2]; exact k7, by rw [hb.cell (p := ⟨g, 8, none⟩) h2]; exact k8, by rw [hb.cell (p := ⟨g, 9, none⟩) h2]; exact k9, by rw [hb.cell (p := ⟨g, 10, none⟩) h2]; exact k10, by rw [hb.cell (p := ⟨g, 11, none⟩) h2]; exact k11, by rw [hb.cell (p := ⟨h, 0, none⟩) h3]; exact l0, by rw [hb.cell (p := ⟨h, 1, none⟩) h3]; exact l1, by rw [hb.cell (p := ⟨h, 2, none⟩) h3]; exact l2, by rw [hb.cell (p := ⟨h, 3, none⟩) h3]; exact l3, by rw [hb.cell (p := ⟨h, 4, none⟩) h3]; exact l4, by rw [hb.cell (p := ⟨h, 5, none⟩) h3]; exact l5, by rw [hb.cell (p := ⟨h, 6, none⟩) h3]; exact l6, by rw [hb.cell (p := ⟨h, 7, none⟩) h3]; exact l7, by rw [hb.cell (p := ⟨h, 8, none⟩) h3]; exact l8, by rw [hb.cell (p := ⟨h, 9, none⟩) h3]; exact l9, by rw [hb.cell (p := ⟨h, 10, none⟩) h3]; exact l10, by rw [hb.cell (p := ⟨h, 11, none⟩) h3]; exact l11⟩
theorem InEncodeSegment0.start {w w' : World} {g h : Nat} {tg th : Nat} {x0_0 : Int} {x0_1 : Int} {x0_2 : Int} {x0_3 : Int} {x0_4 : Int} {x0_5 : Int} {x0_6 : Int} {x0_7 : Bool} {x0_8 : Int} {x0_9 : Bool} {o0_a0 s0_a0 : Option Addr} {n0_0 o0_k0 s0_k0 : Nat} {o0_a1 s0_a1 : Option Addr} {n0_1 o0_k1 s0_k1 : Nat} (hw : Below w.heap.size w w') (hg : w'.heap[g]? = some (.cells #[.int .i64 x0_0, .int .i64 x0_1, .int .i64 x0_2, .int .i64 x0_3, .int .i64 x0_4, .int .i64 x0_5, .int .i64 x0_6, .bool x0_7, .int .i64 x0_8, .bool x0_9, .slice o0_a0 n0_0 o0_k0, .slice o0_a1 n0_1 o0_k1] tg)) (hh : w'.heap[h]? = some (.cells #[.int .i64 x0_0, .int .i64 x0_1, .int .i64 x0_2, .int .i64 x0_3, .int .i64 x0_4, .int .i64 x0_5, .int .i64 x0_6, .bool x0_7, .int .i64 x0_8, .bool x0_9, .slice s0_a0 n0_0 s0_k0, .slice s0_a1 n0_1 s0_k1] th)) : InEncodeSegment0 w w' g h x0_0 x0_1 x0_2 x0_3 x0_4 x0_5 x0_6 x0_7 x0_8 x0_9 o0_a0 s0_a0 n0_0 o0_k0 s0_k0 o0_a1 s0_a1 n0_1 o0_k1 s0_k1 :=
  ⟨hw, (Array.getElem?_eq_some_iff.1 hg).1, (Array.getElem?_eq_some_iff.1 hh).1, cell_of_row _ _ 0 _ _ _ hg, cell_of_row _ _ 1 _ _ _ hg, cell_of_row _ _ 2 _ _ _ hg, cell_of_row _ _ 3 _ _ _ hg, cell_of_row _ _ 4 _ _ _ hg, cell_of_row _ _ 5 _ _ _ hg, cell_of_row _ _ 6 _ _ _ hg, cell_of_row _ _ 7 _ _ _ hg, cell_of_row _ _ 8 _ _ _ hg, cell_of_row _ _ 9 _ _ _ hg, cell_of_row _ _ 10 _ _ _ hg, cell_of_row _ _ 11 _ _ _ hg, cell_of_row _ _ 0 _ _ _ hh, cell_of_row _ _ 1 _ _ _ hh, cell_of_row _ _ 2 _ _ _ hh, cell_of_row _ _ 3 _ _ _ hh, cell_of_row _ _ 4 _ _ _ hh, cell_of_row _ _ 5 _ _ _ hh, cell_of_row _ _ 6 _ _ _ hh, cell_of_row _ _ 7 _ _ _ hh, cell_of_row _ _ 8 _ _ _ hh, cell_of_row _ _ 9 _ _ _ hh, cell_of_row _ _ 10 _ _ _ hh, cell_of_row _ _ 11 _ _ _ hh⟩
set_option maxHeartbeats 8000000 in
set_option maxRecDepth 100000 in
theorem walkEncodeSegment0 (w : World) (x0_0 : Int) (x0_1 : Int) (x0_2 : Int) (x0_3 : Int) (x0_4 : Int) (x0_5 : Int) (x0_6 : Int) (x0_7 : Bool) (x0_8 : Int) (x0_9 : Bool) (o0_a0 : Option Addr) (n0_0 o0_k0 : Nat) (o0_a1 : Option Addr) (n0_1 o0_k1 : Nat) (ds0 : List D) (m1 : Int) (m2 : Int) (N0_0 : Nat) (rs0 ms0 : List D) (C1 : Int) (l0 : Int) (hl0 : 0 ≤ l0) (hZ0 : ∀ (W : World), Calls Tryd.prog 7 #[.agg #[.int .i64 x0_0, .int .i64 x0_1, .int .i64 x0_2, .int .i64 x0_3, .int .i64 x0_4, .int .i64 x0_5, .int .i64 x0_6, .bool x0_7, .int .i64 x0_8, .bool x0_9, .slice o0_a0 n0_0 o0_k0, .slice o0_a1 n0_1 o0_k1], .int .i64 1048576] W fun e w' => e = .returned (.int .i64 l0) ∧ Below W.heap.size W w') (hT0 : ∀ (W : World), Below w.heap.size w W → Calls Tryd.prog 9 #[.agg #[.int .i64 x0_0, .int .i64 x0_1, .int .i64 x0_2, .int .i64 x0_3, .int .i64 x0_4, .int .i64 x0_5, .int .i64 x0_6, .bool x0_7, .int .i64 x0_8, .bool x0_9, .slice o0_a0 n0_0 o0_k0, .slice o0_a1 n0_1 o0_k1]] W fun e w' => ∃ (c0_a0 : Option Addr) (c0_k0 : Nat) (c0_a1 : Option Addr) (c0_k1 : Nat) (bs : List Nat), e = .returned (.agg #[.int .i64 x0_0, .int .i64 x0_1, .int .i64 x0_2, .int .i64 x0_3, .int .i64 x0_4, .int .i64 x0_5, .int .i64 x0_6, .bool x0_7, .int .i64 x0_8, .bool x0_9, .slice c0_a0 n0_0 c0_k0, .slice c0_a1 n0_1 c0_k1]) ∧ HoldsL w' W.heap.size ds0 [.slice c0_a0 n0_0 c0_k0, .slice c0_a1 n0_1 c0_k1] bs ∧ bs.Nodup ∧ Below W.heap.size W w') (hS : ∀ (W : World) (c0_a0 : Option Addr) (c0_k0 : Nat) (c0_a1 : Option Addr) (c0_k1 : Nat) (B0 : Nat) (bs0 : List Nat), Below w.heap.size w W → HoldsL W B0 ds0 [.slice c0_a0 n0_0 c0_k0, .slice c0_a1 n0_1 c0_k1] bs0 → Calls Tryd.prog 19 #[.agg #[.int .i64 x0_0, .int .i64 x0_1, .int .i64 x0_2, .int .i64 x0_3, .int .i64 x0_4, .int .i64 x0_5, .int .i64 x0_6, .bool x0_7, .int .i64 x0_8, .bool x0_9, .slice c0_a0 n0_0 c0_k0, .slice c0_a1 n0_1 c0_k1], .int .i64 m1, .int .i64 m2] W fun e w' => ∃ (d0_a0 : Option Addr) (d0_k0 : Nat) (fs0 : List Nat), e = .returned (.tuple #[.slice d0_a0 N0_0 d0_k0, .int .i64 C1]) ∧ HoldsL w' W.heap.size rs0 [.slice d0_a0 N0_0 d0_k0] fs0 ∧ (fs0).Nodup ∧ Below W.heap.size W w') (hI : ∀ (W : World) (c0_a0 : Option Addr) (c0_k0 : Nat) (c0_a1 : Option Addr) (c0_k1 : Nat) (B0 : Nat) (bs0 : List Nat), Below w.heap.size w W → HoldsL W B0 ds0 [.slice c0_a0 n0_0 c0_k0, .slice c0_a1 n0_1 c0_k1] bs0 → Calls Tryd.prog 20 #[.agg #[.int .i64 x0_0, .int .i64 x0_1, .int .i64 x0_2, .int .i64 x0_3, .int .i64 x0_4, .int .i64 x0_5, .int .i64 x0_6, .bool x0_7, .int .i64 x0_8, .bool x0_9, .slice c0_a0 n0_0 c0_k0, .slice c0_a1 n0_1 c0_k1], .int .i64 m1, .int .i64 m2] W fun e w' => ∃ (d0_a0 : Option Addr) (d0_k0 : Nat) (fs0 : List Nat), e = .returned (.tuple #[.slice d0_a0 N0_0 d0_k0, .int .i64 C1]) ∧ HoldsL w' W.heap.size rs0 [.slice d0_a0 N0_0 d0_k0] fs0 ∧ (fs0).Nodup ∧ Below W.heap.size W w') (hE0 : ∀ (W : World) (c0_a0 : Option Addr) (c0_k0 : Nat) (c0_a1 : Option Addr) (c0_k1 : Nat) (e0_a0 : Option Addr) (e0_k0 : Nat) (e0_a1 : Option Addr) (e0_k1 : Nat) (B1 B2 : Nat) (b1 b2 : List Nat), HoldsL W B1 ds0 [.slice c0_a0 n0_0 c0_k0, .slice c0_a1 n0_1 c0_k1] b1 → HoldsL W B2 ds0 [.slice e0_a0 n0_0 e0_k0, .slice e0_a1 n0_1 e0_k1] b2 → Calls Tryd.prog 11 #[.agg #[.int .i64 x0_0, .int .i64 x0_1, .int .i64 x0_2, .int .i64 x0_3, .int .i64 x0_4, .int .i64 x0_5, .int .i64 x0_6, .bool x0_7, .int .i64 x0_8, .bool x0_9, .slice c0_a0 n0_0 c0_k0, .slice c0_a1 n0_1 c0_k1], .agg #[.int .i64 x0_0, .int .i64 x0_1, .int .i64 x0_2, .int .i64 x0_3, .int .i64 x0_4, .int .i64 x0_5, .int .i64 x0_6, .bool x0_7, .int .i64 x0_8, .bool x0_9, .slice e0_a0 n0_0 e0_k0, .slice e0_a1 n0_1 e0_k1]] W fun e w' => e = .returned (.bool true) ∧ Below W.heap.size W w') (hQ0 : ∀ (W : World) (c0_a0 : Option Addr) (c0_k0 : Nat) (e0_a0 : Option Addr) (e0_k0 : Nat) (B1 B2 : Nat) (b1 b2 : List Nat), HoldsL W B1 rs0 [.slice c0_a0 N0_0 c0_k0] b1 → HoldsL W B2 rs0 [.slice e0_a0 N0_0 e0_k0] b2 → Calls Tryd.prog 15 #[.slice c0_a0 N0_0 c0_k0, .slice e0_a0 N0_0 e0_k0] W fun e w' => e = .returned (.bool true) ∧ Below W.heap.size W w') (k0 : Int) (hk0 : 0 ≤ k0) (hM0 : ∀ (W : World) (c0_a0 : Option Addr) (c0_k0 : Nat) (c0_a1 : Option Addr) (c0_k1 : Nat) (B : Nat) (bs : List Nat), HoldsL W B ds0 [.slice c0_a0 n0_0 c0_k0, .slice c0_a1 n0_1 c0_k1] bs → bs.Nodup → Calls Tryd.prog 17 #[.agg #[.int .i64 x0_0, .int .i64 x0_1, .int .i64 x0_2, .int .i64 x0_3, .int .i64 x0_4, .int .i64 x0_5, .int .i64 x0_6, .bool x0_7, .int .i64 x0_8, .bool x0_9, .slice c0_a0 n0_0 c0_k0, .slice c0_a1 n0_1 c0_k1], .int .i64 1] W fun e w' => e = .returned (.int .i64 k0) ∧ Only bs W w') (q0 : Int) (hq0 : 0 ≤ q0) (hN0 : ∀ (W : World) (c0_a0 : Option Addr) (c0_k0 : Nat) (B : Nat) (bs : List Nat), HoldsL W B rs0 [.slice c0_a0 N0_0 c0_k0] bs → bs.Nodup → Calls Tryd.prog 16 #[.slice c0_a0 N0_0 c0_k0, .int .i64 1] W fun e w' => e = .returned (.int .i64 q0) ∧ HoldsL w' B ms0 [.slice c0_a0 N0_0 c0_k0] bs ∧ Only bs W w') (hH0 : ∀ (W : World) (c0_a0 : Option Addr) (c0_k0 : Nat) (B : Nat) (bs : List Nat), HoldsL W B ms0 [.slice c0_a0 N0_0 c0_k0] bs → Calls Tryd.prog 21 #[.slice c0_a0 N0_0 c0_k0, .int .i64 1] W fun e w' => e = .returned (.int .i64 q0) ∧ Below W.heap.size W w') :
    Calls Tryd.prog 5 #[.agg #[.int .i64 x0_0, .int .i64 x0_1, .int .i64 x0_2, .int .i64 x0_3, .int .i64 x0_4, .int .i64 x0_5, .int .i64 x0_6, .bool x0_7, .int .i64 x0_8, .bool x0_9, .slice o0_a0 n0_0 o0_k0, .slice o0_a1 n0_1 o0_k1], .int .i64 m1, .int .i64 m2] w fun e w' => e = .returned (.bool true) ∧ Below w.heap.size w w' := by
  have HhT0 := hide hT0
  have HhS := hide hS
  have HhI := hide hI
  have HhE0 := hide hE0
  have HhQ0 := hide hQ0
  have HhZ0 := hide hZ0
  have HhM0 := hide hM0
  have HhN0 := hide hN0
  have HhH0 := hide hH0
  clear hT0 hS hI hE0 hQ0 hZ0 hM0 hN0 hH0
  have HW := hide (Below.refl w.heap.size w)
  have hal := (Below.refl (w).heap.size (w)).alloc (Nat.le_refl _) (.cells #[.int .i64 x0_0, .int .i64 x0_1, .int .i64 x0_2, .int .i64 x0_3, .int .i64 x0_4, .int .i64 x0_5, .int .i64 x0_6, .bool x0_7, .int .i64 x0_8, .bool x0_9, .slice o0_a0 n0_0 o0_k0, .slice o0_a1 n0_1 o0_k1] 25)
  have hsz0 := World.size_alloc (w) (.cells #[.int .i64 x0_0, .int .i64 x0_1, .int .i64 x0_2, .int .i64 x0_3, .int .i64 x0_4, .int .i64 x0_5, .int .i64 x0_6, .bool x0_7, .int .i64 x0_8, .bool x0_9, .slice o0_a0 n0_0 o0_k0, .slice o0_a1 n0_1 o0_k1] 25)
  have Hax0 := hide (Keep.new (w) (.cells #[.int .i64 x0_0, .int .i64 x0_1, .int .i64 x0_2, .int .i64 x0_3, .int .i64 x0_4, .int .i64 x0_5, .int .i64 x0_6, .bool x0_7, .int .i64 x0_8, .bool x0_9, .slice o0_a0 n0_0 o0_k0, .slice o0_a1 n0_1 o0_k1] 25))
  replace HW := hide (below_on HW.out hal)
  clear hal
  have c_ax0_0 : ((w).alloc (.cells #[.int .i64 x0_0, .int .i64 x0_1, .int .i64 x0_2, .int .i64 x0_3, .int .i64 x0_4, .int .i64 x0_5, .int .i64 x0_6, .bool x0_7, .int .i64 x0_8, .bool x0_9, .slice o0_a0 n0_0 o0_k0, .slice o0_a1 n0_1 o0_k1] 25)).cell? ⟨w.heap.size, 0, none⟩ = some (.int .i64 x0_0) := cell_of_row _ _ 0 _ _ _ Hax0.out.here
  have c_ax0_1 : ((w).alloc (.cells #[.int .i64 x0_0, .int .i64 x0_1, .int .i64 x0_2, .int .i64 x0_3, .int .i64 x0_4, .int .i64 x0_5, .int .i64 x0_6, .bool x0_7, .int .i64 x0_8, .bool x0_9, .slice o0_a0 n0_0 o0_k0, .slice o0_a1 n0_1 o0_k1] 25)).cell? ⟨w.heap.size, 1, none⟩ = some (.int .i64 x0_1) := cell_of_row _ _ 1 _ _ _ Hax0.out.here
  have c_ax0_2 : ((w).alloc (.cells #[.int .i64 x0_0, .int .i64 x0_1, .int .i64 x0_2, .int .i64 x0_3, .int .i64 x0_4, .int .i64 x0_5, .int .i64 x0_6, .bool x0_7, .int .i64 x0_8, .bool x0_9, .slice o0_a0 n0_0 o0_k0, .slice o0_a1 n0_1 o0_k1] 25)).cell? ⟨w.heap.size, 2, none⟩ = some (.int .i64 x0_2) := cell_of_row _ _ 2 _ _ _ Hax0.out.here
  have c_ax0_3 : ((w).alloc (.cells #[.int .i64 x0_0, .int .i64 x0_1, .int .i64 x0_2, .int .i64 x0_3, .int .i64 x0_4, .int .i64 x0_5, .int .i64 x0_6, .bool x0_7, .int .i64 x0_8, .bool x0_9, .slice o0_a0 n0_0 o0_k0, .slice o0_a1 n0_1 o0_k1] 25)).cell? ⟨w.heap.size, 3, none⟩ = some (.int .i64 x0_3) := cell_of_row _ _ 3 _ _ _ Hax0.out.here
  have c_ax0_4 : ((w).alloc (.cells #[.int .i64 x0_0, .int .i64 x0_1, .int .i64 x0_2, .int .i64 x0_3, .int .i64 x0_4, .int .i64 x0_5, .int .i64 x0_6, .bool x0_7, .int .i64 x0_8, .bool x0_9, .slice o0_a0 n0_0 o0_k0, .slice o0_a1 n0_1 o0_k1] 25)).cell? ⟨w.heap.size, 4, none⟩ = some (.int .i64 x0_4) := cell_of_row _ _ 4 _ _ _ Hax0.out.here
  have c_ax0_5 : ((w).alloc (.cells #[.int .i64 x0_0, .int .i64 x0_1, .int .i64 x0_2, .int .i64 x0_3, .int .i64 x0_4, .int .i64 x0_5, .int .i64 x0_6, .bool x0_7, .int .i64 x0_8, .bool x0_9, .slice o0_a0 n0_0 o0_k0, .slice o0_a1 n0_1 o0_k1] 25)).cell? ⟨w.heap.size, 5, none⟩ = some (.int .i64 x0_5) := cell_of_row _ _ 5 _ _ _ Hax0.out.here
  have c_ax0_6 : ((w).alloc (.cells #[.int .i64 x0_0, .int .i64 x0_1, .int .i64 x0_2, .int .i64 x0_3, .int .i64 x0_4, .int .i64 x0_5, .int .i64 x0_6, .bool x0_7, .int .i64 x0_8, .bool x0_9, .slice o0_a0 n0_0 o0_k0, .slice o0_a1 n0_1 o0_k1] 25)).cell? ⟨w.heap.size, 6, none⟩ = some (.int .i64 x0_6) := cell_of_row _ _ 6 _ _ _ Hax0.out.here
  have c_ax0_7 : ((w).alloc (.cells #[.int .i64 x0_0, .int .i64 x0_1, .int .i64 x0_2, .int .i64 x0_3, .int .i64 x0_4, .int .i64 x0_5, .int .i64 x0_6, .bool x0_7, .int .i64 x0_8, .bool x0_9, .slice o0_a0 n0_0 o0_k0, .slice o0_a1 n0_1 o0_k1] 25)).cell? ⟨w.heap.size, 7, none⟩ = some (.bool x0_7) := cell_of_row _ _ 7 _ _ _ Hax0.out.here
  have c_ax0_8 : ((w).alloc (.cells #[.int .i64 x0_0, .int .i64 x0_1, .int .i64 x0_2, .int .i64 x0_3, .int .i64 x0_4, .int .i64 x0_5, .int .i64 x0_6, .bool x0_7, .int .i64 x0_8, .bool x0_9, .slice o0_a0 n0_0 o0_k0, .slice o0_a1 n0_1 o0_k1] 25)).cell? ⟨w.heap.size, 8, none⟩ = some (.int .i64 x0_8) := cell_of_row _ _ 8 _ _ _ Hax0.out.here
  have c_ax0_9 : ((w).alloc (.cells #[.int .i64 x0_0, .int .i64 x0_1, .int .i64 x0_2, .int .i64 x0_3, .int .i64 x0_4, .int .i64 x0_5, .int .i64 x0_6, .bool x0_7, .int .i64 x0_8, .bool x0_9, .slice o0_a0 n0_0 o0_k0, .slice o0_a1 n0_1 o0_k1] 25)).cell? ⟨w.heap.size, 9, none⟩ = some (.bool x0_9) := cell_of_row _ _ 9 _ _ _ Hax0.out.here
  have c_ax0_10 : ((w).alloc (.cells #[.int .i64 x0_0, .int .i64 x0_1, .int .i64 x0_2, .int .i64 x0_3, .int .i64 x0_4, .int .i64 x0_5, .int .i64 x0_6, .bool x0_7, .int .i64 x0_8, .bool x0_9, .slice o0_a0 n0_0 o0_k0, .slice o0_a1 n0_1 o0_k1] 25)).cell? ⟨w.heap.size, 10, none⟩ = some (.slice o0_a0 n0_0 o0_k0) := cell_of_row _ _ 10 _ _ _ Hax0.out.here
  have c_ax0_11 : ((w).alloc (.cells #[.int .i64 x0_0, .int .i64 x0_1, .int .i64 x0_2, .int .i64 x0_3, .int .i64 x0_4, .int .i64 x0_5, .int .i64 x0_6, .bool x0_7, .int .i64 x0_8, .bool x0_9, .slice o0_a0 n0_0 o0_k0, .slice o0_a1 n0_1 o0_k1] 25)).cell? ⟨w.heap.size, 11, none⟩ = some (.slice o0_a1 n0_1 o0_k1) := cell_of_row _ _ 11 _ _ _ Hax0.out.here
  go_enter Tryd.func5, Tryd.ntmps5
  go_wp2_with fail
  generalize (w).alloc (.cells #[.int .i64 x0_0, .int .i64 x0_1, .int .i64 x0_2, .int .i64 x0_3, .int .i64 x0_4, .int .i64 x0_5, .int .i64 x0_6, .bool x0_7, .int .i64 x0_8, .bool x0_9, .slice o0_a0 n0_0 o0_k0, .slice o0_a1 n0_1 o0_k1] 25) = V0 at *
  have z0 : w.heap.size ≤ V0.heap.size := HW.out.size
  refine (HhZ0.out _).mono ?_
  rintro e u1 ⟨rfl, hb⟩
  clear c_ax0_0 c_ax0_1 c_ax0_2 c_ax0_3 c_ax0_4 c_ax0_5 c_ax0_6 c_ax0_7 c_ax0_8 c_ax0_9 c_ax0_10 c_ax0_11
  replace Hax0 := hide (Hax0.out.next hb)
  replace HW := hide (below_on HW.out hb)
  have z1 := hb.size
  clear hb
  clear HhZ0
  have c_ax0_0 : (u1).cell? ⟨w.heap.size, 0, none⟩ = some (.int .i64 x0_0) := cell_of_row _ _ 0 _ _ _ Hax0.out.here
  have c_ax0_1 : (u1).cell? ⟨w.heap.size, 1, none⟩ = some (.int .i64 x0_1) := cell_of_row _ _ 1 _ _ _ Hax0.out.here
  have c_ax0_2 : (u1).cell? ⟨w.heap.size, 2, none⟩ = some (.int .i64 x0_2) := cell_of_row _ _ 2 _ _ _ Hax0.out.here
  have c_ax0_3 : (u1).cell? ⟨w.heap.size, 3, none⟩ = some (.int .i64 x0_3) := cell_of_row _ _ 3 _ _ _ Hax0.out.here
  have c_ax0_4 : (u1).cell? ⟨w.heap.size, 4, none⟩ = some (.int .i64 x0_4) := cell_of_row _ _ 4 _ _ _ Hax0.out.here
  have c_ax0_5 : (u1).cell? ⟨w.heap.size, 5, none⟩ = some (.int .i64 x0_5) := cell_of_row _ _ 5 _ _ _ Hax0.out.here
  have c_ax0_6 : (u1).cell? ⟨w.heap.size, 6, none⟩ = some (.int .i64 x0_6) := cell_of_row _ _ 6 _ _ _ Hax0.out.here
  have c_ax0_7 : (u1).cell? ⟨w.heap.size, 7, none⟩ = some (.bool x0_7) := cell_of_row _ _ 7 _ _ _ Hax0.out.here
  have c_ax0_8 : (u1).cell? ⟨w.heap.size, 8, none⟩ = some (.int .i64 x0_8) := cell_of_row _ _ 8 _ _ _ Hax0.out.here
  have c_ax0_9 : (u1).cell? ⟨w.heap.size, 9, none⟩ = some (.bool x0_9) := cell_of_row _ _ 9 _ _ _ Hax0.out.here
  have c_ax0_10 : (u1).cell? ⟨w.heap.size, 10, none⟩ = some (.slice o0_a0 n0_0 o0_k0) := cell_of_row _ _ 10 _ _ _ Hax0.out.here
  have c_ax0_11 : (u1).cell? ⟨w.heap.size, 11, none⟩ = some (.slice o0_a1 n0_1 o0_k1) := cell_of_row _ _ 11 _ _ _ Hax0.out.here
  go_wp2_with fail
  refine (HhT0.out _ HW.out).mono ?_
  rintro e u2 ⟨r0_a0, r0_k0, r0_a1, r0_k1, rb0, rfl, ro0, rn0, hb⟩
  have Hrn0 := hide rn0
  clear rn0
  clear c_ax0_0 c_ax0_1 c_ax0_2 c_ax0_3 c_ax0_4 c_ax0_5 c_ax0_6 c_ax0_7 c_ax0_8 c_ax0_9 c_ax0_10 c_ax0_11
  replace Hax0 := hide (Hax0.out.next hb)
  replace HW := hide (below_on HW.out hb)
  have z2 := hb.size
  clear hb
  have lo_rd0 : ∀ b ∈ rb0, u1.heap.size ≤ b := fun b hb => (HoldsL.lt _ _ _ ro0 b hb).1
  have hi_rd0 : ∀ b ∈ rb0, b < u2.heap.size := fun b hb => (HoldsL.lt _ _ _ ro0 b hb).2
  have Hrd0 := hide (Keep.data ro0)
  clear ro0
  have Hlo_rd0 := hide lo_rd0
  have Hhi_rd0 := hide hi_rd0
  clear lo_rd0 hi_rd0
  go_wp2_with fail
  refine (HhS.out _ r0_a0 r0_k0 r0_a1 r0_k1 _ _ HW.out Hrd0.out.here).mono ?_
  rintro e u3 ⟨p0_a0, p0_k0, pf0, rfl, po0, pn, hb⟩
  have Hpn := hide pn
  clear pn
  replace Hax0 := hide (Hax0.out.next hb)
  replace Hrd0 := hide (Hrd0.out.next hb)
  replace HW := hide (below_on HW.out hb)
  have z3 := hb.size
  clear hb
  have lo_pd0 : ∀ b ∈ pf0, u2.heap.size ≤ b := fun b hb => (HoldsL.lt _ _ _ po0 b hb).1
  have hi_pd0 : ∀ b ∈ pf0, b < u3.heap.size := fun b hb => (HoldsL.lt _ _ _ po0 b hb).2
  have Hpd0 := hide (Keep.data po0)
  clear po0
  have Hlo_pd0 := hide lo_pd0
  have Hhi_pd0 := hide hi_pd0
  clear lo_pd0 hi_pd0
  clear Hrd0
  clear Hlo_rd0 Hhi_rd0
  have c_ax0_0 : (u3).cell? ⟨w.heap.size, 0, none⟩ = some (.int .i64 x0_0) := cell_of_row _ _ 0 _ _ _ Hax0.out.here
  have c_ax0_1 : (u3).cell? ⟨w.heap.size, 1, none⟩ = some (.int .i64 x0_1) := cell_of_row _ _ 1 _ _ _ Hax0.out.here
  have c_ax0_2 : (u3).cell? ⟨w.heap.size, 2, none⟩ = some (.int .i64 x0_2) := cell_of_row _ _ 2 _ _ _ Hax0.out.here
  have c_ax0_3 : (u3).cell? ⟨w.heap.size, 3, none⟩ = some (.int .i64 x0_3) := cell_of_row _ _ 3 _ _ _ Hax0.out.here
  have c_ax0_4 : (u3).cell? ⟨w.heap.size, 4, none⟩ = some (.int .i64 x0_4) := cell_of_row _ _ 4 _ _ _ Hax0.out.here
  have c_ax0_5 : (u3).cell? ⟨w.heap.size, 5, none⟩ = some (.int .i64 x0_5) := cell_of_row _ _ 5 _ _ _ Hax0.out.here
  have c_ax0_6 : (u3).cell? ⟨w.heap.size, 6, none⟩ = some (.int .i64 x0_6) := cell_of_row _ _ 6 _ _ _ Hax0.out.here
  have c_ax0_7 : (u3).cell? ⟨w.heap.size, 7, none⟩ = some (.bool x0_7) := cell_of_row _ _ 7 _ _ _ Hax0.out.here
  have c_ax0_8 : (u3).cell? ⟨w.heap.size, 8, none⟩ = some (.int .i64 x0_8) := cell_of_row _ _ 8 _ _ _ Hax0.out.here
  have c_ax0_9 : (u3).cell? ⟨w.heap.size, 9, none⟩ = some (.bool x0_9) := cell_of_row _ _ 9 _ _ _ Hax0.out.here
  have c_ax0_10 : (u3).cell? ⟨w.heap.size, 10, none⟩ = some (.slice o0_a0 n0_0 o0_k0) := cell_of_row _ _ 10 _ _ _ Hax0.out.here
  have c_ax0_11 : (u3).cell? ⟨w.heap.size, 11, none⟩ = some (.slice o0_a1 n0_1 o0_k1) := cell_of_row _ _ 11 _ _ _ Hax0.out.here
  go_wp2_with fail
  have zz3 := HW.out.size
  refine (HhT0.out _ HW.out).mono ?_
  rintro e u4 ⟨s0_a0, s0_k0, s0_a1, s0_k1, sb0, rfl, so0, sn0, hb⟩
  have Hsn0 := hide sn0
  clear sn0
  clear c_ax0_0 c_ax0_1 c_ax0_2 c_ax0_3 c_ax0_4 c_ax0_5 c_ax0_6 c_ax0_7 c_ax0_8 c_ax0_9 c_ax0_10 c_ax0_11
  replace Hax0 := hide (Hax0.out.next hb)
  replace Hpd0 := hide (Hpd0.out.next hb)
  replace HW := hide (below_on HW.out hb)
  have z4 := hb.size
  clear hb
  have lo_sd0 : ∀ b ∈ sb0, u3.heap.size ≤ b := fun b hb => (HoldsL.lt _ _ _ so0 b hb).1
  have hi_sd0 : ∀ b ∈ sb0, b < u4.heap.size := fun b hb => (HoldsL.lt _ _ _ so0 b hb).2
  have Hsd0 := hide (Keep.data so0)
  clear so0
  have Hlo_sd0 := hide lo_sd0
  have Hhi_sd0 := hide hi_sd0
  clear lo_sd0 hi_sd0
  have hal := (Below.refl (u4).heap.size (u4)).alloc (Nat.le_refl _) (.cells #[.int .i64 x0_0, .int .i64 x0_1, .int .i64 x0_2, .int .i64 x0_3, .int .i64 x0_4, .int .i64 x0_5, .int .i64 x0_6, .bool x0_7, .int .i64 x0_8, .bool x0_9, .slice s0_a0 n0_0 s0_k0, .slice s0_a1 n0_1 s0_k1] 31)
  have hsz4 := World.size_alloc (u4) (.cells #[.int .i64 x0_0, .int .i64 x0_1, .int .i64 x0_2, .int .i64 x0_3, .int .i64 x0_4, .int .i64 x0_5, .int .i64 x0_6, .bool x0_7, .int .i64 x0_8, .bool x0_9, .slice s0_a0 n0_0 s0_k0, .slice s0_a1 n0_1 s0_k1] 31)
  have Hsx0 := hide (Keep.new (u4) (.cells #[.int .i64 x0_0, .int .i64 x0_1, .int .i64 x0_2, .int .i64 x0_3, .int .i64 x0_4, .int .i64 x0_5, .int .i64 x0_6, .bool x0_7, .int .i64 x0_8, .bool x0_9, .slice s0_a0 n0_0 s0_k0, .slice s0_a1 n0_1 s0_k1] 31))
  replace Hax0 := hide (Hax0.out.next hal)
  replace Hpd0 := hide (Hpd0.out.next hal)
  replace Hsd0 := hide (Hsd0.out.next hal)
  replace HW := hide (below_on HW.out hal)
  clear hal
  have c_ax0_0 : ((u4).alloc (.cells #[.int .i64 x0_0, .int .i64 x0_1, .int .i64 x0_2, .int .i64 x0_3, .int .i64 x0_4, .int .i64 x0_5, .int .i64 x0_6, .bool x0_7, .int .i64 x0_8, .bool x0_9, .slice s0_a0 n0_0 s0_k0, .slice s0_a1 n0_1 s0_k1] 31)).cell? ⟨w.heap.size, 0, none⟩ = some (.int .i64 x0_0) := cell_of_row _ _ 0 _ _ _ Hax0.out.here
  have c_ax0_1 : ((u4).alloc (.cells #[.int .i64 x0_0, .int .i64 x0_1, .int .i64 x0_2, .int .i64 x0_3, .int .i64 x0_4, .int .i64 x0_5, .int .i64 x0_6, .bool x0_7, .int .i64 x0_8, .bool x0_9, .slice s0_a0 n0_0 s0_k0, .slice s0_a1 n0_1 s0_k1] 31)).cell? ⟨w.heap.size, 1, none⟩ = some (.int .i64 x0_1) := cell_of_row _ _ 1 _ _ _ Hax0.out.here
  have c_ax0_2 : ((u4).alloc (.cells #[.int .i64 x0_0, .int .i64 x0_1, .int .i64 x0_2, .int .i64 x0_3, .int .i64 x0_4, .int .i64 x0_5, .int .i64 x0_6, .bool x0_7, .int .i64 x0_8, .bool x0_9, .slice s0_a0 n0_0 s0_k0, .slice s0_a1 n0_1 s0_k1] 31)).cell? ⟨w.heap.size, 2, none⟩ = some (.int .i64 x0_2) := cell_of_row _ _ 2 _ _ _ Hax0.out.here
  have c_ax0_3 : ((u4).alloc (.cells #[.int .i64 x0_0, .int .i64 x0_1, .int .i64 x0_2, .int .i64 x0_3, .int .i64 x0_4, .int .i64 x0_5, .int .i64 x0_6, .bool x0_7, .int .i64 x0_8, .bool x0_9, .slice s0_a0 n0_0 s0_k0, .slice s0_a1 n0_1 s0_k1] 31)).cell? ⟨w.heap.size, 3, none⟩ = some (.int .i64 x0_3) := cell_of_row _ _ 3 _ _ _ Hax0.out.here
  have c_ax0_4 : ((u4).alloc (.cells #[.int .i64 x0_0, .int .i64 x0_1, .int .i64 x0_2, .int .i64 x0_3, .int .i64 x0_4, .int .i64 x0_5, .int .i64 x0_6, .bool x0_7, .int .i64 x0_8, .bool x0_9, .slice s0_a0 n0_0 s0_k0, .slice s0_a1 n0_1 s0_k1] 31)).cell? ⟨w.heap.size, 4, none⟩ = some (.int .i64 x0_4) := cell_of_row _ _ 4 _ _ _ Hax0.out.here
  have c_ax0_5 : ((u4).alloc (.cells #[.int .i64 x0_0, .int .i64 x0_1, .int .i64 x0_2, .int .i64 x0_3, .int .i64 x0_4, .int .i64 x0_5, .int .i64 x0_6, .bool x0_7, .int .i64 x0_8, .bool x0_9, .slice s0_a0 n0_0 s0_k0, .slice s0_a1 n0_1 s0_k1] 31)).cell? ⟨w.heap.size, 5, none⟩ = some (.int .i64 x0_5) := cell_of_row _ _ 5 _ _ _ Hax0.out.here
  have c_ax0_6 : ((u4).alloc (.cells #[.int .i64 x0_0, .int .i64 x0_1, .int .i64 x0_2, .int .i64 x0_3, .int .i64 x0_4, .int .i64 x0_5, .int .i64 x0_6, .bool x0_7, .int .i64 x0_8, .bool x0_9, .slice s0_a0 n0_0 s0_k0, .slice s0_a1 n0_1 s0_k1] 31)).cell? ⟨w.heap.size, 6, none⟩ = some (.int .i64 x0_6) := cell_of_row _ _ 6 _ _ _ Hax0.out.here
  have c_ax0_7 : ((u4).alloc (.cells #[.int .i64 x0_0, .int .i64 x0_1, .int .i64 x0_2, .int .i64 x0_3, .int .i64 x0_4, .int .i64 x0_5, .int .i64 x0_6, .bool x0_7, .int .i64 x0_8, .bool x0_9, .slice s0_a0 n0_0 s0_k0, .slice s0_a1 n0_1 s0_k1] 31)).cell? ⟨w.heap.size, 7, none⟩ = some (.bool x0_7) := cell_of_row _ _ 7 _ _ _ Hax0.out.here
  have c_ax0_8 : ((u4).alloc (.cells #[.int .i64 x0_0, .int .i64 x0_1, .int .i64 x0_2, .int .i64 x0_3, .int .i64 x0_4, .int .i64 x0_5, .int .i64 x0_6, .bool x0_7, .int .i64 x0_8, .bool x0_9, .slice s0_a0 n0_0 s0_k0, .slice s0_a1 n0_1 s0_k1] 31)).cell? ⟨w.heap.size, 8, none⟩ = some (.int .i64 x0_8) := cell_of_row _ _ 8 _ _ _ Hax0.out.here
  have c_ax0_9 : ((u4).alloc (.cells #[.int .i64 x0_0, .int .i64 x0_1, .int .i64 x0_2, .int .i64 x0_3, .int .i64 x0_4, .int .i64 x0_5, .int .i64 x0_6, .bool x0_7, .int .i64 x0_8, .bool x0_9, .slice s0_a0 n0_0 s0_k0, .slice s0_a1 n0_1 s0_k1] 31)).cell? ⟨w.heap.size, 9, none⟩ = some (.bool x0_9) := cell_of_row _ _ 9 _ _ _ Hax0.out.here
  have c_ax0_10 : ((u4).alloc (.cells #[.int .i64 x0_0, .int .i64 x0_1, .int .i64 x0_2, .int .i64 x0_3, .int .i64 x0_4, .int .i64 x0_5, .int .i64 x0_6, .bool x0_7, .int .i64 x0_8, .bool x0_9, .slice s0_a0 n0_0 s0_k0, .slice s0_a1 n0_1 s0_k1] 31)).cell? ⟨w.heap.size, 10, none⟩ = some (.slice o0_a0 n0_0 o0_k0) := cell_of_row _ _ 10 _ _ _ Hax0.out.here
  have c_ax0_11 : ((u4).alloc (.cells #[.int .i64 x0_0, .int .i64 x0_1, .int .i64 x0_2, .int .i64 x0_3, .int .i64 x0_4, .int .i64 x0_5, .int .i64 x0_6, .bool x0_7, .int .i64 x0_8, .bool x0_9, .slice s0_a0 n0_0 s0_k0, .slice s0_a1 n0_1 s0_k1] 31)).cell? ⟨w.heap.size, 11, none⟩ = some (.slice o0_a1 n0_1 o0_k1) := cell_of_row _ _ 11 _ _ _ Hax0.out.here
  have c_sx0_0 : ((u4).alloc (.cells #[.int .i64 x0_0, .int .i64 x0_1, .int .i64 x0_2, .int .i64 x0_3, .int .i64 x0_4, .int .i64 x0_5, .int .i64 x0_6, .bool x0_7, .int .i64 x0_8, .bool x0_9, .slice s0_a0 n0_0 s0_k0, .slice s0_a1 n0_1 s0_k1] 31)).cell? ⟨u4.heap.size, 0, none⟩ = some (.int .i64 x0_0) := cell_of_row _ _ 0 _ _ _ Hsx0.out.here
  have c_sx0_1 : ((u4).alloc (.cells #[.int .i64 x0_0, .int .i64 x0_1, .int .i64 x0_2, .int .i64 x0_3, .int .i64 x0_4, .int .i64 x0_5, .int .i64 x0_6, .bool x0_7, .int .i64 x0_8, .bool x0_9, .slice s0_a0 n0_0 s0_k0, .slice s0_a1 n0_1 s0_k1] 31)).cell? ⟨u4.heap.size, 1, none⟩ = some (.int .i64 x0_1) := cell_of_row _ _ 1 _ _ _ Hsx0.out.here
  have c_sx0_2 : ((u4).alloc (.cells #[.int .i64 x0_0, .int .i64 x0_1, .int .i64 x0_2, .int .i64 x0_3, .int .i64 x0_4, .int .i64 x0_5, .int .i64 x0_6, .bool x0_7, .int .i64 x0_8, .bool x0_9, .slice s0_a0 n0_0 s0_k0, .slice s0_a1 n0_1 s0_k1] 31)).cell? ⟨u4.heap.size, 2, none⟩ = some (.int .i64 x0_2) := cell_of_row _ _ 2 _ _ _ Hsx0.out.here
  have c_sx0_3 : ((u4).alloc (.cells #[.int .i64 x0_0, .int .i64 x0_1, .int .i64 x0_2, .int .i64 x0_3, .int .i64 x0_4, .int .i64 x0_5, .int .i64 x0_6, .bool x0_7, .int .i64 x0_8, .bool x0_9, .slice s0_a0 n0_0 s0_k0, .slice s0_a1 n0_1 s0_k1] 31)).cell? ⟨u4.heap.size, 3, none⟩ = some (.int .i64 x0_3) := cell_of_row _ _ 3 _ _ _ Hsx0.out.here
  have c_sx0_4 : ((u4).alloc (.cells #[.int .i64 x0_0, .int .i64 x0_1, .int .i64 x0_2, .int .i64 x0_3, .int .i64 x0_4, .int .i64 x0_5, .int .i64 x0_6, .bool x0_7, .int .i64 x0_8, .bool x0_9, .slice s0_a0 n0_0 s0_k0, .slice s0_a1 n0_1 s0_k1] 31)).cell? ⟨u4.heap.size, 4, none⟩ = some (.int .i64 x0_4) := cell_of_row _ _ 4 _ _ _ Hsx0.out.here
  have c_sx0_5 : ((u4).alloc (.cells #[.int .i64 x0_0, .int .i64 x0_1, .int .i64 x0_2, .int .i64 x0_3, .int .i64 x0_4, .int .i64 x0_5, .int .i64 x0_6, .bool x0_7, .int .i64 x0_8, .bool x0_9, .slice s0_a0 n0_0 s0_k0, .slice s0_a1 n0_1 s0_k1] 31)).cell? ⟨u4.heap.size, 5, none⟩ = some (.int .i64 x0_5) := cell_of_row _ _ 5 _ _ _ Hsx0.out.here
  have c_sx0_6 : ((u4).alloc (.cells #[.int .i64 x0_0, .int .i64 x0_1, .int .i64 x0_2, .int .i64 x0_3, .int .i64 x0_4, .int .i64 x0_5, .int .i64 x0_6, .bool x0_7, .int .i64 x0_8, .bool x0_9, .slice s0_a0 n0_0 s0_k0, .slice s0_a1 n0_1 s0_k1] 31)).cell? ⟨u4.heap.size, 6, none⟩ = some (.int .i64 x0_6) := cell_of_row _ _ 6 _ _ _ Hsx0.out.here
  have c_sx0_7 : ((u4).alloc (.cells #[.int .i64 x0_0, .int .i64 x0_1, .int .i64 x0_2, .int .i64 x0_3, .int .i64 x0_4, .int .i64 x0_5, .int .i64 x0_6, .bool x0_7, .int .i64 x0_8, .bool x0_9, .slice s0_a0 n0_0 s0_k0, .slice s0_a1 n0_1 s0_k1] 31)).cell? ⟨u4.heap.size, 7, none⟩ = some (.bool x0_7) := cell_of_row _ _ 7 _ _ _ Hsx0.out.here
  have c_sx0_8 : ((u4).alloc (.cells #[.int .i64 x0_0, .int .i64 x0_1, .int .i64 x0_2, .int .i64 x0_3, .int .i64 x0_4, .int .i64 x0_5, .int .i64 x0_6, .bool x0_7, .int .i64 x0_8, .bool x0_9, .slice s0_a0 n0_0 s0_k0, .slice s0_a1 n0_1 s0_k1] 31)).cell? ⟨u4.heap.size, 8, none⟩ = some (.int .i64 x0_8) := cell_of_row _ _ 8 _ _ _ Hsx0.out.here
  have c_sx0_9 : ((u4).alloc (.cells #[.int .i64 x0_0, .int .i64 x0_1, .int .i64 x0_2, .int .i64 x0_3, .int .i64 x0_4, .int .i64 x0_5, .int .i64 x0_6, .bool x0_7, .int .i64 x0_8, .bool x0_9, .slice s0_a0 n0_0 s0_k0, .slice s0_a1 n0_1 s0_k1] 31)).cell? ⟨u4.heap.size, 9, none⟩ = some (.bool x0_9) := cell_of_row _ _ 9 _ _ _ Hsx0.out.here
  have c_sx0_10 : ((u4).alloc (.cells #[.int .i64 x0_0, .int .i64 x0_1, .int .i64 x0_2, .int .i64 x0_3, .int .i64 x0_4, .int .i64 x0_5, .int .i64 x0_6, .bool x0_7, .int .i64 x0_8, .bool x0_9, .slice s0_a0 n0_0 s0_k0, .slice s0_a1 n0_1 s0_k1] 31)).cell? ⟨u4.heap.size, 10, none⟩ = some (.slice s0_a0 n0_0 s0_k0) := cell_of_row _ _ 10 _ _ _ Hsx0.out.here
  have c_sx0_11 : ((u4).alloc (.cells #[.int .i64 x0_0, .int .i64 x0_1, .int .i64 x0_2, .int .i64 x0_3, .int .i64 x0_4, .int .i64 x0_5, .int .i64 x0_6, .bool x0_7, .int .i64 x0_8, .bool x0_9, .slice s0_a0 n0_0 s0_k0, .slice s0_a1 n0_1 s0_k1] 31)).cell? ⟨u4.heap.size, 11, none⟩ = some (.slice s0_a1 n0_1 s0_k1) := cell_of_row _ _ 11 _ _ _ Hsx0.out.here
  go_wp2_with fail
  generalize (u4).alloc (.cells #[.int .i64 x0_0, .int .i64 x0_1, .int .i64 x0_2, .int .i64 x0_3, .int .i64 x0_4, .int .i64 x0_5, .int .i64 x0_6, .bool x0_7, .int .i64 x0_8, .bool x0_9, .slice s0_a0 n0_0 s0_k0, .slice s0_a1 n0_1 s0_k1] 31) = V5 at *
  clear c_ax0_0 c_ax0_1 c_ax0_2 c_ax0_3 c_ax0_4 c_ax0_5 c_ax0_6 c_ax0_7 c_ax0_8 c_ax0_9 c_ax0_10 c_ax0_11 c_sx0_0 c_sx0_1 c_sx0_2 c_sx0_3 c_sx0_4 c_sx0_5 c_sx0_6 c_sx0_7 c_sx0_8 c_sx0_9 c_sx0_10 c_sx0_11
  refine (HhI.out _ s0_a0 s0_k0 s0_a1 s0_k1 _ _ HW.out Hsd0.out.here).mono ?_
  rintro e u6 ⟨q0_a0, q0_k0, qf0, rfl, qo0, qn, hb⟩
  have Hqn := hide qn
  clear qn
  replace Hax0 := hide (Hax0.out.next hb)
  replace Hpd0 := hide (Hpd0.out.next hb)
  replace Hsd0 := hide (Hsd0.out.next hb)
  replace Hsx0 := hide (Hsx0.out.next hb)
  replace HW := hide (below_on HW.out hb)
  have z5 := hb.size
  clear hb
  have lo_qd0 : ∀ b ∈ qf0, V5.heap.size ≤ b := fun b hb => (HoldsL.lt _ _ _ qo0 b hb).1
  have hi_qd0 : ∀ b ∈ qf0, b < u6.heap.size := fun b hb => (HoldsL.lt _ _ _ qo0 b hb).2
  have Hqd0 := hide (Keep.data qo0)
  clear qo0
  have Hlo_qd0 := hide lo_qd0
  have Hhi_qd0 := hide hi_qd0
  clear lo_qd0 hi_qd0
  go_wp2_with fail
  refine (HhQ0.out _ q0_a0 q0_k0 p0_a0 p0_k0 _ _ _ _ Hqd0.out.here Hpd0.out.here).mono ?_
  rintro e u7 ⟨rfl, hb⟩
  replace Hax0 := hide (Hax0.out.next hb)
  replace Hpd0 := hide (Hpd0.out.next hb)
  replace Hsd0 := hide (Hsd0.out.next hb)
  replace Hsx0 := hide (Hsx0.out.next hb)
  replace Hqd0 := hide (Hqd0.out.next hb)
  replace HW := hide (below_on HW.out hb)
  have z6 := hb.size
  clear hb
  go_wp2_with fail
  have HI := hide (InEncodeSegment0.start HW.out Hax0.out.here Hsx0.out.here)
  go_region_held3 (fun w' => InEncodeSegment0 w w' w.heap.size u4.heap.size x0_0 x0_1 x0_2 x0_3 x0_4 x0_5 x0_6 x0_7 x0_8 x0_9 o0_a0 s0_a0 n0_0 o0_k0 s0_k0 o0_a1 s0_a1 n0_1 o0_k1 s0_k1) (with_reducible first | assumption | exact HI.out.next ((Below.refl _ _).drew) | exact InEncodeSegment0.next (by assumption) hb7 | exact InEncodeSegment0.next (by assumption) hb8)
    (first
      | (go_at_call 9; refine (HhT0.out _ (by assumption : InEncodeSegment0 w _ _ _ x0_0 x0_1 x0_2 x0_3 x0_4 x0_5 x0_6 x0_7 x0_8 x0_9 o0_a0 s0_a0 n0_0 o0_k0 s0_k0 o0_a1 s0_a1 n0_1 o0_k1 s0_k1).1).mono ?_; rintro e w7 ⟨t0_a0, t0_k0, t0_a1, t0_k1, tb0, rfl, to0, tn0, hb7⟩; have hsx := (Hsd0.out.next ((Below.refl _ _).drew)).next hb7)
      | (go_at_call 11; refine (HhE0.out _ s0_a0 s0_k0 s0_a1 s0_k1 t0_a0 t0_k0 t0_a1 t0_k1 _ _ _ _ hsx.here to0).mono ?_; rintro e w8 ⟨rfl, hb8⟩))
  have hb : Below u7.heap.size u7 w8 := (below_drew hb7).trans (hb8.mono hb7.size)
  clear hb7 hb8 hsx to0 tn0 HI
  replace Hax0 := hide (Hax0.out.next hb)
  replace Hpd0 := hide (Hpd0.out.next hb)
  replace Hsd0 := hide (Hsd0.out.next hb)
  replace Hsx0 := hide (Hsx0.out.next hb)
  replace Hqd0 := hide (Hqd0.out.next hb)
  replace HW := hide (below_on HW.out hb)
  have z7 := hb.size
  clear hb
  generalize w8 = u9 at *
  have c_sx0_0 : (u9).cell? ⟨u4.heap.size, 0, none⟩ = some (.int .i64 x0_0) := cell_of_row _ _ 0 _ _ _ Hsx0.out.here
  have c_sx0_1 : (u9).cell? ⟨u4.heap.size, 1, none⟩ = some (.int .i64 x0_1) := cell_of_row _ _ 1 _ _ _ Hsx0.out.here
  have c_sx0_2 : (u9).cell? ⟨u4.heap.size, 2, none⟩ = some (.int .i64 x0_2) := cell_of_row _ _ 2 _ _ _ Hsx0.out.here
  have c_sx0_3 : (u9).cell? ⟨u4.heap.size, 3, none⟩ = some (.int .i64 x0_3) := cell_of_row _ _ 3 _ _ _ Hsx0.out.here
  have c_sx0_4 : (u9).cell? ⟨u4.heap.size, 4, none⟩ = some (.int .i64 x0_4) := cell_of_row _ _ 4 _ _ _ Hsx0.out.here
  have c_sx0_5 : (u9).cell? ⟨u4.heap.size, 5, none⟩ = some (.int .i64 x0_5) := cell_of_row _ _ 5 _ _ _ Hsx0.out.here
  have c_sx0_6 : (u9).cell? ⟨u4.heap.size, 6, none⟩ = some (.int .i64 x0_6) := cell_of_row _ _ 6 _ _ _ Hsx0.out.here
  have c_sx0_7 : (u9).cell? ⟨u4.heap.size, 7, none⟩ = some (.bool x0_7) := cell_of_row _ _ 7 _ _ _ Hsx0.out.here
  have c_sx0_8 : (u9).cell? ⟨u4.heap.size, 8, none⟩ = some (.int .i64 x0_8) := cell_of_row _ _ 8 _ _ _ Hsx0.out.here
  have c_sx0_9 : (u9).cell? ⟨u4.heap.size, 9, none⟩ = some (.bool x0_9) := cell_of_row _ _ 9 _ _ _ Hsx0.out.here
  have c_sx0_10 : (u9).cell? ⟨u4.heap.size, 10, none⟩ = some (.slice s0_a0 n0_0 s0_k0) := cell_of_row _ _ 10 _ _ _ Hsx0.out.here
  have c_sx0_11 : (u9).cell? ⟨u4.heap.size, 11, none⟩ = some (.slice s0_a1 n0_1 s0_k1) := cell_of_row _ _ 11 _ _ _ Hsx0.out.here
  go_wp2_with fail
  refine (HhM0.out _ s0_a0 s0_k0 s0_a1 s0_k1 _ _ Hsd0.out.here Hsn0.out).mono ?_
  rintro e u10 ⟨rfl, hon⟩
  clear c_sx0_0 c_sx0_1 c_sx0_2 c_sx0_3 c_sx0_4 c_sx0_5 c_sx0_6 c_sx0_7 c_sx0_8 c_sx0_9 c_sx0_10 c_sx0_11
  replace Hax0 := hide (Hax0.out.only hon (fun b hb hm => by have h1 := List.mem_singleton.1 hb; have h3 := Hlo_sd0.out b hm; have h4 := Hhi_sd0.out b hm; omega))
  replace Hpd0 := hide (Hpd0.out.only hon (fun b hb hm => by have h1 := Hlo_pd0.out b hb; have h2 := Hhi_pd0.out b hb; have h3 := Hlo_sd0.out b hm; have h4 := Hhi_sd0.out b hm; omega))
  replace Hsx0 := hide (Hsx0.out.only hon (fun b hb hm => by have h1 := List.mem_singleton.1 hb; have h3 := Hlo_sd0.out b hm; have h4 := Hhi_sd0.out b hm; omega))
  replace Hqd0 := hide (Hqd0.out.only hon (fun b hb hm => by have h1 := Hlo_qd0.out b hb; have h2 := Hhi_qd0.out b hb; have h3 := Hlo_sd0.out b hm; have h4 := Hhi_sd0.out b hm; omega))
  replace HW := hide (below_only HW.out hon (fun b hb => by have h1 := Hlo_sd0.out b hb; omega))
  have z8 := hon.size
  clear hon
  clear Hsd0
  clear Hlo_sd0 Hhi_sd0
  go_wp2_with fail
  refine (HhQ0.out _ q0_a0 q0_k0 p0_a0 p0_k0 _ _ _ _ Hqd0.out.here Hpd0.out.here).mono ?_
  rintro e u11 ⟨rfl, hb⟩
  replace Hax0 := hide (Hax0.out.next hb)
  replace Hpd0 := hide (Hpd0.out.next hb)
  replace Hsx0 := hide (Hsx0.out.next hb)
  replace Hqd0 := hide (Hqd0.out.next hb)
  replace HW := hide (below_on HW.out hb)
  have z9 := hb.size
  clear hb
  go_wp2_with fail
  refine (HhN0.out _ q0_a0 q0_k0 _ _ Hqd0.out.here Hqn.out).mono ?_
  rintro e u12 ⟨rfl, hmk, hon⟩
  replace Hax0 := hide (Hax0.out.only hon (fun b hb hm => by have h1 := List.mem_singleton.1 hb; have h3 := Hlo_qd0.out b hm; have h4 := Hhi_qd0.out b hm; omega))
  replace Hpd0 := hide (Hpd0.out.only hon (fun b hb hm => by have h1 := Hlo_pd0.out b hb; have h2 := Hhi_pd0.out b hb; have h3 := Hlo_qd0.out b hm; have h4 := Hhi_qd0.out b hm; omega))
  replace Hsx0 := hide (Hsx0.out.only hon (fun b hb hm => by have h1 := List.mem_singleton.1 hb; have h3 := Hlo_qd0.out b hm; have h4 := Hhi_qd0.out b hm; omega))
  replace HW := hide (below_only HW.out hon (fun b hb => by have h1 := Hlo_qd0.out b hb; omega))
  replace Hqd0 := hide (Keep.data hmk)
  have z10 := hon.size
  clear hon hmk
  go_wp2_with fail
  refine (HhH0.out _ q0_a0 q0_k0 _ _ Hqd0.out.here).mono ?_
  rintro e u13 ⟨rfl, hb⟩
  replace Hax0 := hide (Hax0.out.next hb)
  replace Hpd0 := hide (Hpd0.out.next hb)
  replace Hsx0 := hide (Hsx0.out.next hb)
  replace Hqd0 := hide (Hqd0.out.next hb)
  replace HW := hide (below_on HW.out hb)
  have z11 := hb.size
  clear hb
  have c_ax0_0 : (u13).cell? ⟨w.heap.size, 0, none⟩ = some (.int .i64 x0_0) := cell_of_row _ _ 0 _ _ _ Hax0.out.here
  have c_ax0_1 : (u13).cell? ⟨w.heap.size, 1, none⟩ = some (.int .i64 x0_1) := cell_of_row _ _ 1 _ _ _ Hax0.out.here
  have c_ax0_2 : (u13).cell? ⟨w.heap.size, 2, none⟩ = some (.int .i64 x0_2) := cell_of_row _ _ 2 _ _ _ Hax0.out.here
  have c_ax0_3 : (u13).cell? ⟨w.heap.size, 3, none⟩ = some (.int .i64 x0_3) := cell_of_row _ _ 3 _ _ _ Hax0.out.here
  have c_ax0_4 : (u13).cell? ⟨w.heap.size, 4, none⟩ = some (.int .i64 x0_4) := cell_of_row _ _ 4 _ _ _ Hax0.out.here
  have c_ax0_5 : (u13).cell? ⟨w.heap.size, 5, none⟩ = some (.int .i64 x0_5) := cell_of_row _ _ 5 _ _ _ Hax0.out.here
  have c_ax0_6 : (u13).cell? ⟨w.heap.size, 6, none⟩ = some (.int .i64 x0_6) := cell_of_row _ _ 6 _ _ _ Hax0.out.here
  have c_ax0_7 : (u13).cell? ⟨w.heap.size, 7, none⟩ = some (.bool x0_7) := cell_of_row _ _ 7 _ _ _ Hax0.out.here
  have c_ax0_8 : (u13).cell? ⟨w.heap.size, 8, none⟩ = some (.int .i64 x0_8) := cell_of_row _ _ 8 _ _ _ Hax0.out.here
  have c_ax0_9 : (u13).cell? ⟨w.heap.size, 9, none⟩ = some (.bool x0_9) := cell_of_row _ _ 9 _ _ _ Hax0.out.here
  have c_ax0_10 : (u13).cell? ⟨w.heap.size, 10, none⟩ = some (.slice o0_a0 n0_0 o0_k0) := cell_of_row _ _ 10 _ _ _ Hax0.out.here
  have c_ax0_11 : (u13).cell? ⟨w.heap.size, 11, none⟩ = some (.slice o0_a1 n0_1 o0_k1) := cell_of_row _ _ 11 _ _ _ Hax0.out.here
  go_wp2_with fail
  refine (HhT0.out _ HW.out).mono ?_
  rintro e u14 ⟨t0_a0, t0_k0, t0_a1, t0_k1, tb0, rfl, to0, tn0, hb⟩
  have Htn0 := hide tn0
  clear tn0
  clear c_ax0_0 c_ax0_1 c_ax0_2 c_ax0_3 c_ax0_4 c_ax0_5 c_ax0_6 c_ax0_7 c_ax0_8 c_ax0_9 c_ax0_10 c_ax0_11
  replace Hax0 := hide (Hax0.out.next hb)
  replace Hpd0 := hide (Hpd0.out.next hb)
  replace Hsx0 := hide (Hsx0.out.next hb)
  replace Hqd0 := hide (Hqd0.out.next hb)
  replace HW := hide (below_on HW.out hb)
  have z12 := hb.size
  clear hb
  have lo_td0 : ∀ b ∈ tb0, u13.heap.size ≤ b := fun b hb => (HoldsL.lt _ _ _ to0 b hb).1
  have hi_td0 : ∀ b ∈ tb0, b < u14.heap.size := fun b hb => (HoldsL.lt _ _ _ to0 b hb).2
  have Htd0 := hide (Keep.data to0)
  clear to0
  have Hlo_td0 := hide lo_td0
  have Hhi_td0 := hide hi_td0
  clear lo_td0 hi_td0
  go_wp2_with fail
  refine (HhI.out _ t0_a0 t0_k0 t0_a1 t0_k1 _ _ HW.out Htd0.out.here).mono ?_
  rintro e u15 ⟨h0_a0, h0_k0, hf0, rfl, ho0, hn, hb⟩
  have Hhn := hide hn
  clear hn
  replace Hax0 := hide (Hax0.out.next hb)
  replace Hpd0 := hide (Hpd0.out.next hb)
  replace Hsx0 := hide (Hsx0.out.next hb)
  replace Hqd0 := hide (Hqd0.out.next hb)
  replace Htd0 := hide (Htd0.out.next hb)
  replace HW := hide (below_on HW.out hb)
  have z13 := hb.size
  clear hb
  have lo_hd0 : ∀ b ∈ hf0, u14.heap.size ≤ b := fun b hb => (HoldsL.lt _ _ _ ho0 b hb).1
  have hi_hd0 : ∀ b ∈ hf0, b < u15.heap.size := fun b hb => (HoldsL.lt _ _ _ ho0 b hb).2
  have Hhd0 := hide (Keep.data ho0)
  clear ho0
  have Hlo_hd0 := hide lo_hd0
  have Hhi_hd0 := hide hi_hd0
  clear lo_hd0 hi_hd0
  clear Htd0
  clear Hlo_td0 Hhi_td0
  go_wp2_with fail
  refine (HhQ0.out _ h0_a0 h0_k0 p0_a0 p0_k0 _ _ _ _ Hhd0.out.here Hpd0.out.here).mono ?_
  rintro e u16 ⟨rfl, hb⟩
  replace Hax0 := hide (Hax0.out.next hb)
  replace Hpd0 := hide (Hpd0.out.next hb)
  replace Hsx0 := hide (Hsx0.out.next hb)
  replace Hqd0 := hide (Hqd0.out.next hb)
  replace Hhd0 := hide (Hhd0.out.next hb)
  replace HW := hide (below_on HW.out hb)
  have z14 := hb.size
  clear hb
  go_wp2_with fail
  refine (HhH0.out _ q0_a0 q0_k0 _ _ Hqd0.out.here).mono ?_
  rintro e u17 ⟨rfl, hb⟩
  replace Hax0 := hide (Hax0.out.next hb)
  replace Hpd0 := hide (Hpd0.out.next hb)
  replace Hsx0 := hide (Hsx0.out.next hb)
  replace Hqd0 := hide (Hqd0.out.next hb)
  replace Hhd0 := hide (Hhd0.out.next hb)
  replace HW := hide (below_on HW.out hb)
  have z15 := hb.size
  clear hb
  go_wp2_with fail
  go_ret
  exact ⟨rfl, HW.out⟩
end Go.Proofs.YthcmgnhfgplajaaDoor
