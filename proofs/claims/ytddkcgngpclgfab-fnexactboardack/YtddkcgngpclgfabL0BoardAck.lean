/-
Contracts of functions of this seat.
-/
import Derived.Test.YtddkcgngpclgfabRows
import Derived.WalkKit
import Derived.ProofKit
import Derived.OpenShut
import Derived.Test.YtddkcgngpclgfabBly
namespace Go.Proofs.Ytddkcgngpclgfab
open Go.ChangeShapes Go.WideShapes Go.ChangeAt Go.RowKit
set_option linter.unusedVariables false
set_option maxRecDepth 100000
abbrev InBoardAck0 (w w' : World) (g h : Nat) (x0_0 : Int) (x0_1 : Int) (o0_a0 s0_a0 : Option Addr) (n0_0 o0_k0 s0_k0 : Nat) : Prop := Below w.heap.size w w' ∧ g < w'.heap.size ∧ h < w'.heap.size ∧ w'.cell? ⟨g, 0, none⟩ = some (.int .i64 x0_0) ∧ w'.cell? ⟨g, 1, none⟩ = some (.int .i64 x0_1) ∧ w'.cell? ⟨g, 2, none⟩ = some (.slice o0_a0 n0_0 o0_k0) ∧ w'.cell? ⟨h, 0, none⟩ = some (.int .i64 x0_0) ∧ w'.cell? ⟨h, 1, none⟩ = some (.int .i64 x0_1) ∧ w'.cell? ⟨h, 2, none⟩ = some (.slice s0_a0 n0_0 s0_k0)
theorem InBoardAck0.next {w w' w2 : World} {g h : Nat} {x0_0 : Int} {x0_1 : Int} {o0_a0 s0_a0 : Option Addr} {n0_0 o0_k0 s0_k0 : Nat} (H : InBoardAck0 w w' g h x0_0 x0_1 o0_a0 s0_a0 n0_0 o0_k0 s0_k0) (hb : Below w'.heap.size w' w2) : InBoardAck0 w w2 g h x0_0 x0_1 o0_a0 s0_a0 n0_0 o0_k0 s0_k0 := by
  obtain ⟨h1, h2, h3, k0, k1, k2, l0, l1, l2⟩ := H
  exact ⟨below_on h1 hb, Nat.lt_of_lt_of_le h2 hb.size, Nat.lt_of_lt_of_le h3 hb.size, by rw [hb.cell (p := ⟨g, 0, none⟩) h2]; exact k0, by rw [hb.cell (p := ⟨g, 1, none⟩) h2]; exact k1, by rw [hb.cell (p := ⟨g, 2, none⟩) h2]; exact k2, by rw [hb.cell (p := ⟨h, 0, none⟩) h3]; exact l0, by rw [hb.cell (p := ⟨h, 1, none⟩) h3]; exact l1, by rw [hb.cell (p := ⟨h, 2, none⟩) h3]; exact l2⟩
theorem InBoardAck0.start {w w' : World} {g h : Nat} {tg th : Nat} {x0_0 : Int} {x0_1 : Int} {o0_a0 s0_a0 : Option Addr} {n0_0 o0_k0 s0_k0 : Nat} (hw : Below w.heap.size w w') (hg : w'.heap[g]? = some (.cells #[.int .i64 x0_0, .int .i64 x0_1, .slice o0_a0 n0_0 o0_k0] tg)) (hh : w'.heap[h]? = some (.cells #[.int .i64 x0_0, .int .i64 x0_1, .slice s0_a0 n0_0 s0_k0] th)) : InBoardAck0 w w' g h x0_0 x0_1 o0_a0 s0_a0 n0_0 o0_k0 s0_k0 :=
  ⟨hw, (Array.getElem?_eq_some_iff.1 hg).1, (Array.getElem?_eq_some_iff.1 hh).1, cell_of_row _ _ 0 _ _ _ hg, cell_of_row _ _ 1 _ _ _ hg, cell_of_row _ _ 2 _ _ _ hg, cell_of_row _ _ 0 _ _ _ hh, cell_of_row _ _ 1 _ _ _ hh, cell_of_row _ _ 2 _ _ _ hh⟩
set_option maxHeartbeats 8000000 in
set_option maxRecDepth 100000 in
theorem walkBoardAck0 (w : World) (x0_0 : Int) (x0_1 : Int) (o0_a0 : Option Addr) (n0_0 o0_k0 : Nat) (ds0 : List D) (m1 : Int) (o2_a0 : Option Addr) (n2_0 o2_k0 : Nat) (ds2 : List D) (y0_0 : Int) (y0_1 : Int) (N0_0 : Nat) (rs0 ms0 : List D) (y1_0 : Int) (y1_1 : Int) (y1_2 : Int) (C2 : Int) (l0 : Int) (hl0 : 0 ≤ l0) (hZ0 : ∀ (W : World), Calls Try.prog 5 #[.agg #[.int .i64 x0_0, .int .i64 x0_1, .slice o0_a0 n0_0 o0_k0], .int .i64 1048576] W fun e w' => e = .returned (.int .i64 l0) ∧ Below W.heap.size W w') (l1 : Int) (hl1 : 0 ≤ l1) (hZ2 : ∀ (W : World), Calls Try.prog 13 #[.slice o2_a0 n2_0 o2_k0, .int .i64 l0] W fun e w' => e = .returned (.int .i64 l1) ∧ Below W.heap.size W w') (hT0 : ∀ (W : World), Below w.heap.size w W → Calls Try.prog 7 #[.agg #[.int .i64 x0_0, .int .i64 x0_1, .slice o0_a0 n0_0 o0_k0]] W fun e w' => ∃ (c0_a0 : Option Addr) (c0_k0 : Nat) (bs : List Nat), e = .returned (.agg #[.int .i64 x0_0, .int .i64 x0_1, .slice c0_a0 n0_0 c0_k0]) ∧ HoldsL w' W.heap.size ds0 [.slice c0_a0 n0_0 c0_k0] bs ∧ bs.Nodup ∧ Below W.heap.size W w') (hT2 : ∀ (W : World), Below w.heap.size w W → Calls Try.prog 15 #[.slice o2_a0 n2_0 o2_k0] W fun e w' => ∃ (c2_a0 : Option Addr) (c2_k0 : Nat) (bs : List Nat), e = .returned (.slice c2_a0 n2_0 c2_k0) ∧ HoldsL w' W.heap.size ds2 [.slice c2_a0 n2_0 c2_k0] bs ∧ bs.Nodup ∧ Below W.heap.size W w') (hS : ∀ (W : World) (c0_a0 : Option Addr) (c0_k0 : Nat) (B0 : Nat) (bs0 : List Nat) (c2_a0 : Option Addr) (c2_k0 : Nat) (B2 : Nat) (bs2 : List Nat), Below w.heap.size w W → HoldsL W B0 ds0 [.slice c0_a0 n0_0 c0_k0] bs0 → HoldsL W B2 ds2 [.slice c2_a0 n2_0 c2_k0] bs2 → Calls Try.prog 14 #[.agg #[.int .i64 x0_0, .int .i64 x0_1, .slice c0_a0 n0_0 c0_k0], .int .i64 m1, .slice c2_a0 n2_0 c2_k0] W fun e w' => ∃ (d0_a0 : Option Addr) (d0_k0 : Nat) (fs0 : List Nat), e = .returned (.tuple #[.agg #[.int .i64 y0_0, .int .i64 y0_1, .slice d0_a0 N0_0 d0_k0], .agg #[.int .i64 y1_0, .int .i64 y1_1, .int .i64 y1_2], .int .i64 C2]) ∧ HoldsL w' W.heap.size rs0 [.slice d0_a0 N0_0 d0_k0] fs0 ∧ (fs0).Nodup ∧ Below W.heap.size W w') (hI : ∀ (W : World) (c0_a0 : Option Addr) (c0_k0 : Nat) (B0 : Nat) (bs0 : List Nat) (c2_a0 : Option Addr) (c2_k0 : Nat) (B2 : Nat) (bs2 : List Nat), Below w.heap.size w W → HoldsL W B0 ds0 [.slice c0_a0 n0_0 c0_k0] bs0 → HoldsL W B2 ds2 [.slice c2_a0 n2_0 c2_k0] bs2 → Calls Try.prog 16 #[.agg #[.int .i64 x0_0, .int .i64 x0_1, .slice c0_a0 n0_0 c0_k0], .int .i64 m1, .slice c2_a0 n2_0 c2_k0] W fun e w' => ∃ (d0_a0 : Option Addr) (d0_k0 : Nat) (fs0 : List Nat), e = .returned (.tuple #[.agg #[.int .i64 y0_0, .int .i64 y0_1, .slice d0_a0 N0_0 d0_k0], .agg #[.int .i64 y1_0, .int .i64 y1_1, .int .i64 y1_2], .int .i64 C2]) ∧ HoldsL w' W.heap.size rs0 [.slice d0_a0 N0_0 d0_k0] fs0 ∧ (fs0).Nodup ∧ Below W.heap.size W w') (hE0 : ∀ (W : World) (c0_a0 : Option Addr) (c0_k0 : Nat) (e0_a0 : Option Addr) (e0_k0 : Nat) (B1 B2 : Nat) (b1 b2 : List Nat), HoldsL W B1 ds0 [.slice c0_a0 n0_0 c0_k0] b1 → HoldsL W B2 ds0 [.slice e0_a0 n0_0 e0_k0] b2 → Calls Try.prog 9 #[.agg #[.int .i64 x0_0, .int .i64 x0_1, .slice c0_a0 n0_0 c0_k0], .agg #[.int .i64 x0_0, .int .i64 x0_1, .slice e0_a0 n0_0 e0_k0]] W fun e w' => e = .returned (.bool true) ∧ Below W.heap.size W w') (hE2 : ∀ (W : World) (c2_a0 : Option Addr) (c2_k0 : Nat) (e2_a0 : Option Addr) (e2_k0 : Nat) (B1 B2 : Nat) (b1 b2 : List Nat), HoldsL W B1 ds2 [.slice c2_a0 n2_0 c2_k0] b1 → HoldsL W B2 ds2 [.slice e2_a0 n2_0 e2_k0] b2 → Calls Try.prog 18 #[.slice c2_a0 n2_0 c2_k0, .slice e2_a0 n2_0 e2_k0] W fun e w' => e = .returned (.bool true) ∧ Below W.heap.size W w') (hQ0 : ∀ (W : World) (c0_a0 : Option Addr) (c0_k0 : Nat) (e0_a0 : Option Addr) (e0_k0 : Nat) (B1 B2 : Nat) (b1 b2 : List Nat), HoldsL W B1 rs0 [.slice c0_a0 N0_0 c0_k0] b1 → HoldsL W B2 rs0 [.slice e0_a0 N0_0 e0_k0] b2 → Calls Try.prog 9 #[.agg #[.int .i64 y0_0, .int .i64 y0_1, .slice c0_a0 N0_0 c0_k0], .agg #[.int .i64 y0_0, .int .i64 y0_1, .slice e0_a0 N0_0 e0_k0]] W fun e w' => e = .returned (.bool true) ∧ Below W.heap.size W w') (hQ1 : ∀ (W : World), Calls Try.prog 17 #[.agg #[.int .i64 y1_0, .int .i64 y1_1, .int .i64 y1_2], .agg #[.int .i64 y1_0, .int .i64 y1_1, .int .i64 y1_2]] W fun e w' => e = .returned (.bool true) ∧ Below W.heap.size W w') (k0 : Int) (hk0 : 0 ≤ k0) (hM0 : ∀ (W : World) (c0_a0 : Option Addr) (c0_k0 : Nat) (B : Nat) (bs : List Nat), HoldsL W B ds0 [.slice c0_a0 n0_0 c0_k0] bs → bs.Nodup → Calls Try.prog 11 #[.agg #[.int .i64 x0_0, .int .i64 x0_1, .slice c0_a0 n0_0 c0_k0], .int .i64 1] W fun e w' => e = .returned (.int .i64 k0) ∧ Only bs W w') (k1 : Int) (hk1 : 0 ≤ k1) (hM2 : ∀ (W : World) (c2_a0 : Option Addr) (c2_k0 : Nat) (B : Nat) (bs : List Nat), HoldsL W B ds2 [.slice c2_a0 n2_0 c2_k0] bs → bs.Nodup → Calls Try.prog 19 #[.slice c2_a0 n2_0 c2_k0, .int .i64 k0] W fun e w' => e = .returned (.int .i64 k1) ∧ Only bs W w') (q0 : Int) (hq0 : 0 ≤ q0) (hN0 : ∀ (W : World) (c0_a0 : Option Addr) (c0_k0 : Nat) (B : Nat) (bs : List Nat), HoldsL W B rs0 [.slice c0_a0 N0_0 c0_k0] bs → bs.Nodup → Calls Try.prog 11 #[.agg #[.int .i64 y0_0, .int .i64 y0_1, .slice c0_a0 N0_0 c0_k0], .int .i64 1] W fun e w' => e = .returned (.int .i64 q0) ∧ HoldsL w' B ms0 [.slice c0_a0 N0_0 c0_k0] bs ∧ Only bs W w') (hH0 : ∀ (W : World) (c0_a0 : Option Addr) (c0_k0 : Nat) (B : Nat) (bs : List Nat), HoldsL W B ms0 [.slice c0_a0 N0_0 c0_k0] bs → Calls Try.prog 12 #[.agg #[.int .i64 y0_0, .int .i64 y0_1, .slice c0_a0 N0_0 c0_k0], .int .i64 1] W fun e w' => e = .returned (.int .i64 q0) ∧ Below W.heap.size W w') :
    Calls Try.prog 4 #[.agg #[.int .i64 x0_0, .int .i64 x0_1, .slice o0_a0 n0_0 o0_k0], .int .i64 m1, .slice o2_a0 n2_0 o2_k0] w fun e w' => e = .returned (.bool true) ∧ Below w.heap.size w w' := by
  have HhT0 := hide hT0
  have HhT2 := hide hT2
  have HhS := hide hS
  have HhI := hide hI
  have HhE0 := hide hE0
  have HhE2 := hide hE2
  have HhQ0 := hide hQ0
  have HhQ1 := hide hQ1
  have HhZ0 := hide hZ0
  have HhZ2 := hide hZ2
  have HhM0 := hide hM0
  have HhM2 := hide hM2
  have HhN0 := hide hN0
  have HhH0 := hide hH0
  clear hT0 hT2 hS hI hE0 hE2 hQ0 hQ1 hZ0 hZ2 hM0 hM2 hN0 hH0
  have HW := hide (Below.refl w.heap.size w)
  have hal := (Below.refl (w).heap.size (w)).alloc (Nat.le_refl _) (.cells #[.int .i64 x0_0, .int .i64 x0_1, .slice o0_a0 n0_0 o0_k0] 24)
  have hsz0 := World.size_alloc (w) (.cells #[.int .i64 x0_0, .int .i64 x0_1, .slice o0_a0 n0_0 o0_k0] 24)
  have Hax0 := hide (Keep.new (w) (.cells #[.int .i64 x0_0, .int .i64 x0_1, .slice o0_a0 n0_0 o0_k0] 24))
  replace HW := hide (below_on HW.out hal)
  clear hal
  have c_ax0_0 : ((w).alloc (.cells #[.int .i64 x0_0, .int .i64 x0_1, .slice o0_a0 n0_0 o0_k0] 24)).cell? ⟨w.heap.size, 0, none⟩ = some (.int .i64 x0_0) := cell_of_row _ _ 0 _ _ _ Hax0.out.here
  have c_ax0_1 : ((w).alloc (.cells #[.int .i64 x0_0, .int .i64 x0_1, .slice o0_a0 n0_0 o0_k0] 24)).cell? ⟨w.heap.size, 1, none⟩ = some (.int .i64 x0_1) := cell_of_row _ _ 1 _ _ _ Hax0.out.here
  have c_ax0_2 : ((w).alloc (.cells #[.int .i64 x0_0, .int .i64 x0_1, .slice o0_a0 n0_0 o0_k0] 24)).cell? ⟨w.heap.size, 2, none⟩ = some (.slice o0_a0 n0_0 o0_k0) := cell_of_row _ _ 2 _ _ _ Hax0.out.here
  go_enter Try.func4, Try.ntmps4
  go_wp2_with fail
  generalize (w).alloc (.cells #[.int .i64 x0_0, .int .i64 x0_1, .slice o0_a0 n0_0 o0_k0] 24) = V0 at *
  have z0 : w.heap.size ≤ V0.heap.size := HW.out.size
  refine (HhZ0.out _).mono ?_
  rintro e u1 ⟨rfl, hb⟩
  clear c_ax0_0 c_ax0_1 c_ax0_2
  replace Hax0 := hide (Hax0.out.next hb)
  replace HW := hide (below_on HW.out hb)
  have z1 := hb.size
  clear hb
  clear HhZ0
  have c_ax0_0 : (u1).cell? ⟨w.heap.size, 0, none⟩ = some (.int .i64 x0_0) := cell_of_row _ _ 0 _ _ _ Hax0.out.here
  have c_ax0_1 : (u1).cell? ⟨w.heap.size, 1, none⟩ = some (.int .i64 x0_1) := cell_of_row _ _ 1 _ _ _ Hax0.out.here
  have c_ax0_2 : (u1).cell? ⟨w.heap.size, 2, none⟩ = some (.slice o0_a0 n0_0 o0_k0) := cell_of_row _ _ 2 _ _ _ Hax0.out.here
  go_wp2_with fail
  refine (HhZ2.out _).mono ?_
  rintro e u2 ⟨rfl, hb⟩
  clear c_ax0_0 c_ax0_1 c_ax0_2
  replace Hax0 := hide (Hax0.out.next hb)
  replace HW := hide (below_on HW.out hb)
  have z2 := hb.size
  clear hb
  clear HhZ2
  have c_ax0_0 : (u2).cell? ⟨w.heap.size, 0, none⟩ = some (.int .i64 x0_0) := cell_of_row _ _ 0 _ _ _ Hax0.out.here
  have c_ax0_1 : (u2).cell? ⟨w.heap.size, 1, none⟩ = some (.int .i64 x0_1) := cell_of_row _ _ 1 _ _ _ Hax0.out.here
  have c_ax0_2 : (u2).cell? ⟨w.heap.size, 2, none⟩ = some (.slice o0_a0 n0_0 o0_k0) := cell_of_row _ _ 2 _ _ _ Hax0.out.here
  go_wp2_with fail
  refine (HhT0.out _ HW.out).mono ?_
  rintro e u3 ⟨r0_a0, r0_k0, rb0, rfl, ro0, rn0, hb⟩
  have Hrn0 := hide rn0
  clear rn0
  clear c_ax0_0 c_ax0_1 c_ax0_2
  replace Hax0 := hide (Hax0.out.next hb)
  replace HW := hide (below_on HW.out hb)
  have z3 := hb.size
  clear hb
  have lo_rd0 : ∀ b ∈ rb0, u2.heap.size ≤ b := fun b hb => (HoldsL.lt _ _ _ ro0 b hb).1
  have hi_rd0 : ∀ b ∈ rb0, b < u3.heap.size := fun b hb => (HoldsL.lt _ _ _ ro0 b hb).2
  have Hrd0 := hide (Keep.data ro0)
  clear ro0
  have Hlo_rd0 := hide lo_rd0
  have Hhi_rd0 := hide hi_rd0
  clear lo_rd0 hi_rd0
  have c_ax0_0 : (u3).cell? ⟨w.heap.size, 0, none⟩ = some (.int .i64 x0_0) := cell_of_row _ _ 0 _ _ _ Hax0.out.here
  have c_ax0_1 : (u3).cell? ⟨w.heap.size, 1, none⟩ = some (.int .i64 x0_1) := cell_of_row _ _ 1 _ _ _ Hax0.out.here
  have c_ax0_2 : (u3).cell? ⟨w.heap.size, 2, none⟩ = some (.slice o0_a0 n0_0 o0_k0) := cell_of_row _ _ 2 _ _ _ Hax0.out.here
  go_wp2_with fail
  refine (HhT2.out _ HW.out).mono ?_
  rintro e u4 ⟨r2_a0, r2_k0, rb2, rfl, ro2, rn2, hb⟩
  have Hrn2 := hide rn2
  clear rn2
  clear c_ax0_0 c_ax0_1 c_ax0_2
  replace Hax0 := hide (Hax0.out.next hb)
  replace Hrd0 := hide (Hrd0.out.next hb)
  replace HW := hide (below_on HW.out hb)
  have z4 := hb.size
  clear hb
  have lo_rd2 : ∀ b ∈ rb2, u3.heap.size ≤ b := fun b hb => (HoldsL.lt _ _ _ ro2 b hb).1
  have hi_rd2 : ∀ b ∈ rb2, b < u4.heap.size := fun b hb => (HoldsL.lt _ _ _ ro2 b hb).2
  have Hrd2 := hide (Keep.data ro2)
  clear ro2
  have Hlo_rd2 := hide lo_rd2
  have Hhi_rd2 := hide hi_rd2
  clear lo_rd2 hi_rd2
  go_wp2_with fail
  refine (HhS.out _ r0_a0 r0_k0 _ _ r2_a0 r2_k0 _ _ HW.out Hrd0.out.here Hrd2.out.here).mono ?_
  rintro e u5 ⟨p0_a0, p0_k0, pf0, rfl, po0, pn, hb⟩
  have Hpn := hide pn
  clear pn
  replace Hax0 := hide (Hax0.out.next hb)
  replace Hrd0 := hide (Hrd0.out.next hb)
  replace Hrd2 := hide (Hrd2.out.next hb)
  replace HW := hide (below_on HW.out hb)
  have z5 := hb.size
  clear hb
  have lo_pd0 : ∀ b ∈ pf0, u4.heap.size ≤ b := fun b hb => (HoldsL.lt _ _ _ po0 b hb).1
  have hi_pd0 : ∀ b ∈ pf0, b < u5.heap.size := fun b hb => (HoldsL.lt _ _ _ po0 b hb).2
  have Hpd0 := hide (Keep.data po0)
  clear po0
  have Hlo_pd0 := hide lo_pd0
  have Hhi_pd0 := hide hi_pd0
  clear lo_pd0 hi_pd0
  clear Hrd0
  clear Hlo_rd0 Hhi_rd0
  clear Hrd2
  clear Hlo_rd2 Hhi_rd2
  have hal := (Below.refl (u5).heap.size (u5)).alloc (Nat.le_refl _) (.cells #[.int .i64 y0_0, .int .i64 y0_1, .slice p0_a0 N0_0 p0_k0] 28)
  have hsz5 := World.size_alloc (u5) (.cells #[.int .i64 y0_0, .int .i64 y0_1, .slice p0_a0 N0_0 p0_k0] 28)
  have Hpx0 := hide (Keep.new (u5) (.cells #[.int .i64 y0_0, .int .i64 y0_1, .slice p0_a0 N0_0 p0_k0] 28))
  replace Hax0 := hide (Hax0.out.next hal)
  replace Hpd0 := hide (Hpd0.out.next hal)
  replace HW := hide (below_on HW.out hal)
  clear hal
  have hal := (Below.refl ((u5).alloc (.cells #[.int .i64 y0_0, .int .i64 y0_1, .slice p0_a0 N0_0 p0_k0] 28)).heap.size ((u5).alloc (.cells #[.int .i64 y0_0, .int .i64 y0_1, .slice p0_a0 N0_0 p0_k0] 28))).alloc (Nat.le_refl _) (.cells #[.int .i64 y1_0, .int .i64 y1_1, .int .i64 y1_2] 41)
  have hsz5 := World.size_alloc ((u5).alloc (.cells #[.int .i64 y0_0, .int .i64 y0_1, .slice p0_a0 N0_0 p0_k0] 28)) (.cells #[.int .i64 y1_0, .int .i64 y1_1, .int .i64 y1_2] 41)
  have Hpx1 := hide (Keep.new ((u5).alloc (.cells #[.int .i64 y0_0, .int .i64 y0_1, .slice p0_a0 N0_0 p0_k0] 28)) (.cells #[.int .i64 y1_0, .int .i64 y1_1, .int .i64 y1_2] 41))
  rw [show ((u5).alloc (.cells #[.int .i64 y0_0, .int .i64 y0_1, .slice p0_a0 N0_0 p0_k0] 28)).heap.size = u5.heap.size + 1 from by simp only [World.size_alloc]] at Hpx1
  replace Hax0 := hide (Hax0.out.next hal)
  replace Hpd0 := hide (Hpd0.out.next hal)
  replace Hpx0 := hide (Hpx0.out.next hal)
  replace HW := hide (below_on HW.out hal)
  clear hal
  have c_ax0_0 : (((u5).alloc (.cells #[.int .i64 y0_0, .int .i64 y0_1, .slice p0_a0 N0_0 p0_k0] 28)).alloc (.cells #[.int .i64 y1_0, .int .i64 y1_1, .int .i64 y1_2] 41)).cell? ⟨w.heap.size, 0, none⟩ = some (.int .i64 x0_0) := cell_of_row _ _ 0 _ _ _ Hax0.out.here
  have c_ax0_1 : (((u5).alloc (.cells #[.int .i64 y0_0, .int .i64 y0_1, .slice p0_a0 N0_0 p0_k0] 28)).alloc (.cells #[.int .i64 y1_0, .int .i64 y1_1, .int .i64 y1_2] 41)).cell? ⟨w.heap.size, 1, none⟩ = some (.int .i64 x0_1) := cell_of_row _ _ 1 _ _ _ Hax0.out.here
  have c_ax0_2 : (((u5).alloc (.cells #[.int .i64 y0_0, .int .i64 y0_1, .slice p0_a0 N0_0 p0_k0] 28)).alloc (.cells #[.int .i64 y1_0, .int .i64 y1_1, .int .i64 y1_2] 41)).cell? ⟨w.heap.size, 2, none⟩ = some (.slice o0_a0 n0_0 o0_k0) := cell_of_row _ _ 2 _ _ _ Hax0.out.here
  go_wp2_with fail
  generalize ((u5).alloc (.cells #[.int .i64 y0_0, .int .i64 y0_1, .slice p0_a0 N0_0 p0_k0] 28)).alloc (.cells #[.int .i64 y1_0, .int .i64 y1_1, .int .i64 y1_2] 41) = V6 at *
  have zz5 := HW.out.size
  refine (HhT0.out _ HW.out).mono ?_
  rintro e u7 ⟨s0_a0, s0_k0, sb0, rfl, so0, sn0, hb⟩
  have Hsn0 := hide sn0
  clear sn0
  clear c_ax0_0 c_ax0_1 c_ax0_2
  replace Hax0 := hide (Hax0.out.next hb)
  replace Hpd0 := hide (Hpd0.out.next hb)
  replace Hpx0 := hide (Hpx0.out.next hb)
  replace Hpx1 := hide (Hpx1.out.next hb)
  replace HW := hide (below_on HW.out hb)
  have z6 := hb.size
  clear hb
  have lo_sd0 : ∀ b ∈ sb0, V6.heap.size ≤ b := fun b hb => (HoldsL.lt _ _ _ so0 b hb).1
  have hi_sd0 : ∀ b ∈ sb0, b < u7.heap.size := fun b hb => (HoldsL.lt _ _ _ so0 b hb).2
  have Hsd0 := hide (Keep.data so0)
  clear so0
  have Hlo_sd0 := hide lo_sd0
  have Hhi_sd0 := hide hi_sd0
  clear lo_sd0 hi_sd0
  have hal := (Below.refl (u7).heap.size (u7)).alloc (Nat.le_refl _) (.cells #[.int .i64 x0_0, .int .i64 x0_1, .slice s0_a0 n0_0 s0_k0] 28)
  have hsz6 := World.size_alloc (u7) (.cells #[.int .i64 x0_0, .int .i64 x0_1, .slice s0_a0 n0_0 s0_k0] 28)
  have Hsx0 := hide (Keep.new (u7) (.cells #[.int .i64 x0_0, .int .i64 x0_1, .slice s0_a0 n0_0 s0_k0] 28))
  replace Hax0 := hide (Hax0.out.next hal)
  replace Hpd0 := hide (Hpd0.out.next hal)
  replace Hpx0 := hide (Hpx0.out.next hal)
  replace Hpx1 := hide (Hpx1.out.next hal)
  replace Hsd0 := hide (Hsd0.out.next hal)
  replace HW := hide (below_on HW.out hal)
  clear hal
  have c_ax0_0 : ((u7).alloc (.cells #[.int .i64 x0_0, .int .i64 x0_1, .slice s0_a0 n0_0 s0_k0] 28)).cell? ⟨w.heap.size, 0, none⟩ = some (.int .i64 x0_0) := cell_of_row _ _ 0 _ _ _ Hax0.out.here
  have c_ax0_1 : ((u7).alloc (.cells #[.int .i64 x0_0, .int .i64 x0_1, .slice s0_a0 n0_0 s0_k0] 28)).cell? ⟨w.heap.size, 1, none⟩ = some (.int .i64 x0_1) := cell_of_row _ _ 1 _ _ _ Hax0.out.here
  have c_ax0_2 : ((u7).alloc (.cells #[.int .i64 x0_0, .int .i64 x0_1, .slice s0_a0 n0_0 s0_k0] 28)).cell? ⟨w.heap.size, 2, none⟩ = some (.slice o0_a0 n0_0 o0_k0) := cell_of_row _ _ 2 _ _ _ Hax0.out.here
  have c_sx0_0 : ((u7).alloc (.cells #[.int .i64 x0_0, .int .i64 x0_1, .slice s0_a0 n0_0 s0_k0] 28)).cell? ⟨u7.heap.size, 0, none⟩ = some (.int .i64 x0_0) := cell_of_row _ _ 0 _ _ _ Hsx0.out.here
  have c_sx0_1 : ((u7).alloc (.cells #[.int .i64 x0_0, .int .i64 x0_1, .slice s0_a0 n0_0 s0_k0] 28)).cell? ⟨u7.heap.size, 1, none⟩ = some (.int .i64 x0_1) := cell_of_row _ _ 1 _ _ _ Hsx0.out.here
  have c_sx0_2 : ((u7).alloc (.cells #[.int .i64 x0_0, .int .i64 x0_1, .slice s0_a0 n0_0 s0_k0] 28)).cell? ⟨u7.heap.size, 2, none⟩ = some (.slice s0_a0 n0_0 s0_k0) := cell_of_row _ _ 2 _ _ _ Hsx0.out.here
  go_wp2_with fail
  generalize (u7).alloc (.cells #[.int .i64 x0_0, .int .i64 x0_1, .slice s0_a0 n0_0 s0_k0] 28) = V8 at *
  clear c_ax0_0 c_ax0_1 c_ax0_2 c_sx0_0 c_sx0_1 c_sx0_2
  refine (HhT2.out _ HW.out).mono ?_
  rintro e u9 ⟨s2_a0, s2_k0, sb2, rfl, so2, sn2, hb⟩
  have Hsn2 := hide sn2
  clear sn2
  replace Hax0 := hide (Hax0.out.next hb)
  replace Hpd0 := hide (Hpd0.out.next hb)
  replace Hpx0 := hide (Hpx0.out.next hb)
  replace Hpx1 := hide (Hpx1.out.next hb)
  replace Hsd0 := hide (Hsd0.out.next hb)
  replace Hsx0 := hide (Hsx0.out.next hb)
  replace HW := hide (below_on HW.out hb)
  have z7 := hb.size
  clear hb
  have lo_sd2 : ∀ b ∈ sb2, V8.heap.size ≤ b := fun b hb => (HoldsL.lt _ _ _ so2 b hb).1
  have hi_sd2 : ∀ b ∈ sb2, b < u9.heap.size := fun b hb => (HoldsL.lt _ _ _ so2 b hb).2
  have Hsd2 := hide (Keep.data so2)
  clear so2
  have Hlo_sd2 := hide lo_sd2
  have Hhi_sd2 := hide hi_sd2
  clear lo_sd2 hi_sd2
  have c_ax0_0 : (u9).cell? ⟨w.heap.size, 0, none⟩ = some (.int .i64 x0_0) := cell_of_row _ _ 0 _ _ _ Hax0.out.here
  have c_ax0_1 : (u9).cell? ⟨w.heap.size, 1, none⟩ = some (.int .i64 x0_1) := cell_of_row _ _ 1 _ _ _ Hax0.out.here
  have c_ax0_2 : (u9).cell? ⟨w.heap.size, 2, none⟩ = some (.slice o0_a0 n0_0 o0_k0) := cell_of_row _ _ 2 _ _ _ Hax0.out.here
  have c_sx0_0 : (u9).cell? ⟨u7.heap.size, 0, none⟩ = some (.int .i64 x0_0) := cell_of_row _ _ 0 _ _ _ Hsx0.out.here
  have c_sx0_1 : (u9).cell? ⟨u7.heap.size, 1, none⟩ = some (.int .i64 x0_1) := cell_of_row _ _ 1 _ _ _ Hsx0.out.here
  have c_sx0_2 : (u9).cell? ⟨u7.heap.size, 2, none⟩ = some (.slice s0_a0 n0_0 s0_k0) := cell_of_row _ _ 2 _ _ _ Hsx0.out.here
  go_wp2_with fail
  clear c_ax0_0 c_ax0_1 c_ax0_2 c_sx0_0 c_sx0_1 c_sx0_2
  refine (HhI.out _ s0_a0 s0_k0 _ _ s2_a0 s2_k0 _ _ HW.out Hsd0.out.here Hsd2.out.here).mono ?_
  rintro e u10 ⟨q0_a0, q0_k0, qf0, rfl, qo0, qn, hb⟩
  have Hqn := hide qn
  clear qn
  replace Hax0 := hide (Hax0.out.next hb)
  replace Hpd0 := hide (Hpd0.out.next hb)
  replace Hpx0 := hide (Hpx0.out.next hb)
  replace Hpx1 := hide (Hpx1.out.next hb)
  replace Hsd0 := hide (Hsd0.out.next hb)
  replace Hsx0 := hide (Hsx0.out.next hb)
  replace Hsd2 := hide (Hsd2.out.next hb)
  replace HW := hide (below_on HW.out hb)
  have z8 := hb.size
  clear hb
  have lo_qd0 : ∀ b ∈ qf0, u9.heap.size ≤ b := fun b hb => (HoldsL.lt _ _ _ qo0 b hb).1
  have hi_qd0 : ∀ b ∈ qf0, b < u10.heap.size := fun b hb => (HoldsL.lt _ _ _ qo0 b hb).2
  have Hqd0 := hide (Keep.data qo0)
  clear qo0
  have Hlo_qd0 := hide lo_qd0
  have Hhi_qd0 := hide hi_qd0
  clear lo_qd0 hi_qd0
  have hal := (Below.refl (u10).heap.size (u10)).alloc (Nat.le_refl _) (.cells #[.int .i64 y0_0, .int .i64 y0_1, .slice q0_a0 N0_0 q0_k0] 28)
  have hsz8 := World.size_alloc (u10) (.cells #[.int .i64 y0_0, .int .i64 y0_1, .slice q0_a0 N0_0 q0_k0] 28)
  have Hqx0 := hide (Keep.new (u10) (.cells #[.int .i64 y0_0, .int .i64 y0_1, .slice q0_a0 N0_0 q0_k0] 28))
  replace Hax0 := hide (Hax0.out.next hal)
  replace Hpd0 := hide (Hpd0.out.next hal)
  replace Hpx0 := hide (Hpx0.out.next hal)
  replace Hpx1 := hide (Hpx1.out.next hal)
  replace Hsd0 := hide (Hsd0.out.next hal)
  replace Hsx0 := hide (Hsx0.out.next hal)
  replace Hsd2 := hide (Hsd2.out.next hal)
  replace Hqd0 := hide (Hqd0.out.next hal)
  replace HW := hide (below_on HW.out hal)
  clear hal
  have hal := (Below.refl ((u10).alloc (.cells #[.int .i64 y0_0, .int .i64 y0_1, .slice q0_a0 N0_0 q0_k0] 28)).heap.size ((u10).alloc (.cells #[.int .i64 y0_0, .int .i64 y0_1, .slice q0_a0 N0_0 q0_k0] 28))).alloc (Nat.le_refl _) (.cells #[.int .i64 y1_0, .int .i64 y1_1, .int .i64 y1_2] 41)
  have hsz8 := World.size_alloc ((u10).alloc (.cells #[.int .i64 y0_0, .int .i64 y0_1, .slice q0_a0 N0_0 q0_k0] 28)) (.cells #[.int .i64 y1_0, .int .i64 y1_1, .int .i64 y1_2] 41)
  have Hqx1 := hide (Keep.new ((u10).alloc (.cells #[.int .i64 y0_0, .int .i64 y0_1, .slice q0_a0 N0_0 q0_k0] 28)) (.cells #[.int .i64 y1_0, .int .i64 y1_1, .int .i64 y1_2] 41))
  rw [show ((u10).alloc (.cells #[.int .i64 y0_0, .int .i64 y0_1, .slice q0_a0 N0_0 q0_k0] 28)).heap.size = u10.heap.size + 1 from by simp only [World.size_alloc]] at Hqx1
  replace Hax0 := hide (Hax0.out.next hal)
  replace Hpd0 := hide (Hpd0.out.next hal)
  replace Hpx0 := hide (Hpx0.out.next hal)
  replace Hpx1 := hide (Hpx1.out.next hal)
  replace Hsd0 := hide (Hsd0.out.next hal)
  replace Hsx0 := hide (Hsx0.out.next hal)
  replace Hsd2 := hide (Hsd2.out.next hal)
  replace Hqd0 := hide (Hqd0.out.next hal)
  replace Hqx0 := hide (Hqx0.out.next hal)
  replace HW := hide (below_on HW.out hal)
  clear hal
  have c_px0_0 : (((u10).alloc (.cells #[.int .i64 y0_0, .int .i64 y0_1, .slice q0_a0 N0_0 q0_k0] 28)).alloc (.cells #[.int .i64 y1_0, .int .i64 y1_1, .int .i64 y1_2] 41)).cell? ⟨u5.heap.size, 0, none⟩ = some (.int .i64 y0_0) := cell_of_row _ _ 0 _ _ _ Hpx0.out.here
  have c_px0_1 : (((u10).alloc (.cells #[.int .i64 y0_0, .int .i64 y0_1, .slice q0_a0 N0_0 q0_k0] 28)).alloc (.cells #[.int .i64 y1_0, .int .i64 y1_1, .int .i64 y1_2] 41)).cell? ⟨u5.heap.size, 1, none⟩ = some (.int .i64 y0_1) := cell_of_row _ _ 1 _ _ _ Hpx0.out.here
  have c_px0_2 : (((u10).alloc (.cells #[.int .i64 y0_0, .int .i64 y0_1, .slice q0_a0 N0_0 q0_k0] 28)).alloc (.cells #[.int .i64 y1_0, .int .i64 y1_1, .int .i64 y1_2] 41)).cell? ⟨u5.heap.size, 2, none⟩ = some (.slice p0_a0 N0_0 p0_k0) := cell_of_row _ _ 2 _ _ _ Hpx0.out.here
  have c_px1_0 : (((u10).alloc (.cells #[.int .i64 y0_0, .int .i64 y0_1, .slice q0_a0 N0_0 q0_k0] 28)).alloc (.cells #[.int .i64 y1_0, .int .i64 y1_1, .int .i64 y1_2] 41)).cell? ⟨u5.heap.size + 1, 0, none⟩ = some (.int .i64 y1_0) := cell_of_row _ _ 0 _ _ _ Hpx1.out.here
  have c_px1_1 : (((u10).alloc (.cells #[.int .i64 y0_0, .int .i64 y0_1, .slice q0_a0 N0_0 q0_k0] 28)).alloc (.cells #[.int .i64 y1_0, .int .i64 y1_1, .int .i64 y1_2] 41)).cell? ⟨u5.heap.size + 1, 1, none⟩ = some (.int .i64 y1_1) := cell_of_row _ _ 1 _ _ _ Hpx1.out.here
  have c_px1_2 : (((u10).alloc (.cells #[.int .i64 y0_0, .int .i64 y0_1, .slice q0_a0 N0_0 q0_k0] 28)).alloc (.cells #[.int .i64 y1_0, .int .i64 y1_1, .int .i64 y1_2] 41)).cell? ⟨u5.heap.size + 1, 2, none⟩ = some (.int .i64 y1_2) := cell_of_row _ _ 2 _ _ _ Hpx1.out.here
  have c_qx0_0 : (((u10).alloc (.cells #[.int .i64 y0_0, .int .i64 y0_1, .slice q0_a0 N0_0 q0_k0] 28)).alloc (.cells #[.int .i64 y1_0, .int .i64 y1_1, .int .i64 y1_2] 41)).cell? ⟨u10.heap.size, 0, none⟩ = some (.int .i64 y0_0) := cell_of_row _ _ 0 _ _ _ Hqx0.out.here
  have c_qx0_1 : (((u10).alloc (.cells #[.int .i64 y0_0, .int .i64 y0_1, .slice q0_a0 N0_0 q0_k0] 28)).alloc (.cells #[.int .i64 y1_0, .int .i64 y1_1, .int .i64 y1_2] 41)).cell? ⟨u10.heap.size, 1, none⟩ = some (.int .i64 y0_1) := cell_of_row _ _ 1 _ _ _ Hqx0.out.here
  have c_qx0_2 : (((u10).alloc (.cells #[.int .i64 y0_0, .int .i64 y0_1, .slice q0_a0 N0_0 q0_k0] 28)).alloc (.cells #[.int .i64 y1_0, .int .i64 y1_1, .int .i64 y1_2] 41)).cell? ⟨u10.heap.size, 2, none⟩ = some (.slice q0_a0 N0_0 q0_k0) := cell_of_row _ _ 2 _ _ _ Hqx0.out.here
  have c_qx1_0 : (((u10).alloc (.cells #[.int .i64 y0_0, .int .i64 y0_1, .slice q0_a0 N0_0 q0_k0] 28)).alloc (.cells #[.int .i64 y1_0, .int .i64 y1_1, .int .i64 y1_2] 41)).cell? ⟨u10.heap.size + 1, 0, none⟩ = some (.int .i64 y1_0) := cell_of_row _ _ 0 _ _ _ Hqx1.out.here
  have c_qx1_1 : (((u10).alloc (.cells #[.int .i64 y0_0, .int .i64 y0_1, .slice q0_a0 N0_0 q0_k0] 28)).alloc (.cells #[.int .i64 y1_0, .int .i64 y1_1, .int .i64 y1_2] 41)).cell? ⟨u10.heap.size + 1, 1, none⟩ = some (.int .i64 y1_1) := cell_of_row _ _ 1 _ _ _ Hqx1.out.here
  have c_qx1_2 : (((u10).alloc (.cells #[.int .i64 y0_0, .int .i64 y0_1, .slice q0_a0 N0_0 q0_k0] 28)).alloc (.cells #[.int .i64 y1_0, .int .i64 y1_1, .int .i64 y1_2] 41)).cell? ⟨u10.heap.size + 1, 2, none⟩ = some (.int .i64 y1_2) := cell_of_row _ _ 2 _ _ _ Hqx1.out.here
  go_wp2_with fail
  generalize ((u10).alloc (.cells #[.int .i64 y0_0, .int .i64 y0_1, .slice q0_a0 N0_0 q0_k0] 28)).alloc (.cells #[.int .i64 y1_0, .int .i64 y1_1, .int .i64 y1_2] 41) = V11 at *
  clear c_px0_0 c_px0_1 c_px0_2 c_px1_0 c_px1_1 c_px1_2 c_qx0_0 c_qx0_1 c_qx0_2 c_qx1_0 c_qx1_1 c_qx1_2
  refine (HhQ0.out _ q0_a0 q0_k0 p0_a0 p0_k0 _ _ _ _ Hqd0.out.here Hpd0.out.here).mono ?_
  rintro e u12 ⟨rfl, hb⟩
  replace Hax0 := hide (Hax0.out.next hb)
  replace Hpd0 := hide (Hpd0.out.next hb)
  replace Hpx0 := hide (Hpx0.out.next hb)
  replace Hpx1 := hide (Hpx1.out.next hb)
  replace Hsd0 := hide (Hsd0.out.next hb)
  replace Hsx0 := hide (Hsx0.out.next hb)
  replace Hsd2 := hide (Hsd2.out.next hb)
  replace Hqd0 := hide (Hqd0.out.next hb)
  replace Hqx0 := hide (Hqx0.out.next hb)
  replace Hqx1 := hide (Hqx1.out.next hb)
  replace HW := hide (below_on HW.out hb)
  have z9 := hb.size
  clear hb
  have c_px0_0 : (u12).cell? ⟨u5.heap.size, 0, none⟩ = some (.int .i64 y0_0) := cell_of_row _ _ 0 _ _ _ Hpx0.out.here
  have c_px0_1 : (u12).cell? ⟨u5.heap.size, 1, none⟩ = some (.int .i64 y0_1) := cell_of_row _ _ 1 _ _ _ Hpx0.out.here
  have c_px0_2 : (u12).cell? ⟨u5.heap.size, 2, none⟩ = some (.slice p0_a0 N0_0 p0_k0) := cell_of_row _ _ 2 _ _ _ Hpx0.out.here
  have c_px1_0 : (u12).cell? ⟨u5.heap.size + 1, 0, none⟩ = some (.int .i64 y1_0) := cell_of_row _ _ 0 _ _ _ Hpx1.out.here
  have c_px1_1 : (u12).cell? ⟨u5.heap.size + 1, 1, none⟩ = some (.int .i64 y1_1) := cell_of_row _ _ 1 _ _ _ Hpx1.out.here
  have c_px1_2 : (u12).cell? ⟨u5.heap.size + 1, 2, none⟩ = some (.int .i64 y1_2) := cell_of_row _ _ 2 _ _ _ Hpx1.out.here
  have c_qx0_0 : (u12).cell? ⟨u10.heap.size, 0, none⟩ = some (.int .i64 y0_0) := cell_of_row _ _ 0 _ _ _ Hqx0.out.here
  have c_qx0_1 : (u12).cell? ⟨u10.heap.size, 1, none⟩ = some (.int .i64 y0_1) := cell_of_row _ _ 1 _ _ _ Hqx0.out.here
  have c_qx0_2 : (u12).cell? ⟨u10.heap.size, 2, none⟩ = some (.slice q0_a0 N0_0 q0_k0) := cell_of_row _ _ 2 _ _ _ Hqx0.out.here
  have c_qx1_0 : (u12).cell? ⟨u10.heap.size + 1, 0, none⟩ = some (.int .i64 y1_0) := cell_of_row _ _ 0 _ _ _ Hqx1.out.here
  have c_qx1_1 : (u12).cell? ⟨u10.heap.size + 1, 1, none⟩ = some (.int .i64 y1_1) := cell_of_row _ _ 1 _ _ _ Hqx1.out.here
  have c_qx1_2 : (u12).cell? ⟨u10.heap.size + 1, 2, none⟩ = some (.int .i64 y1_2) := cell_of_row _ _ 2 _ _ _ Hqx1.out.here
  go_wp2_with fail
  refine (HhQ1.out _).mono ?_
  rintro e u13 ⟨rfl, hb⟩
  clear c_px0_0 c_px0_1 c_px0_2 c_px1_0 c_px1_1 c_px1_2 c_qx0_0 c_qx0_1 c_qx0_2 c_qx1_0 c_qx1_1 c_qx1_2
  replace Hax0 := hide (Hax0.out.next hb)
  replace Hpd0 := hide (Hpd0.out.next hb)
  replace Hpx0 := hide (Hpx0.out.next hb)
  replace Hpx1 := hide (Hpx1.out.next hb)
  replace Hsd0 := hide (Hsd0.out.next hb)
  replace Hsx0 := hide (Hsx0.out.next hb)
  replace Hsd2 := hide (Hsd2.out.next hb)
  replace Hqd0 := hide (Hqd0.out.next hb)
  replace Hqx0 := hide (Hqx0.out.next hb)
  replace Hqx1 := hide (Hqx1.out.next hb)
  replace HW := hide (below_on HW.out hb)
  have z10 := hb.size
  clear hb
  go_wp2_with fail
  have HI := hide (InBoardAck0.start HW.out Hax0.out.here Hsx0.out.here)
  go_region_held3 (fun w' => InBoardAck0 w w' w.heap.size u7.heap.size x0_0 x0_1 o0_a0 s0_a0 n0_0 o0_k0 s0_k0) (with_reducible first | assumption | exact HI.out.next ((Below.refl _ _).drew) | exact InBoardAck0.next (by assumption) hb7 | exact InBoardAck0.next (by assumption) hb8)
    (first
      | (go_at_call 7; refine (HhT0.out _ (by assumption : InBoardAck0 w _ _ _ x0_0 x0_1 o0_a0 s0_a0 n0_0 o0_k0 s0_k0).1).mono ?_; rintro e w7 ⟨t0_a0, t0_k0, tb0, rfl, to0, tn0, hb7⟩; have hsx := (Hsd0.out.next ((Below.refl _ _).drew)).next hb7)
      | (go_at_call 9; refine (HhE0.out _ s0_a0 s0_k0 t0_a0 t0_k0 _ _ _ _ hsx.here to0).mono ?_; rintro e w8 ⟨rfl, hb8⟩))
  have hb : Below u13.heap.size u13 w8 := (below_drew hb7).trans (hb8.mono hb7.size)
  clear hb7 hb8 hsx to0 tn0 HI
  replace Hax0 := hide (Hax0.out.next hb)
  replace Hpd0 := hide (Hpd0.out.next hb)
  replace Hpx0 := hide (Hpx0.out.next hb)
  replace Hpx1 := hide (Hpx1.out.next hb)
  replace Hsd0 := hide (Hsd0.out.next hb)
  replace Hsx0 := hide (Hsx0.out.next hb)
  replace Hsd2 := hide (Hsd2.out.next hb)
  replace Hqd0 := hide (Hqd0.out.next hb)
  replace Hqx0 := hide (Hqx0.out.next hb)
  replace Hqx1 := hide (Hqx1.out.next hb)
  replace HW := hide (below_on HW.out hb)
  have z11 := hb.size
  clear hb
  generalize w8 = u15 at *
  go_wp2_with fail
  refine (HhT2.out _ HW.out).mono ?_
  rintro e u16 ⟨t2_a0, t2_k0, tb2, rfl, to2, tn2, hb⟩
  have Htn2 := hide tn2
  clear tn2
  replace Hax0 := hide (Hax0.out.next hb)
  replace Hpd0 := hide (Hpd0.out.next hb)
  replace Hpx0 := hide (Hpx0.out.next hb)
  replace Hpx1 := hide (Hpx1.out.next hb)
  replace Hsd0 := hide (Hsd0.out.next hb)
  replace Hsx0 := hide (Hsx0.out.next hb)
  replace Hsd2 := hide (Hsd2.out.next hb)
  replace Hqd0 := hide (Hqd0.out.next hb)
  replace Hqx0 := hide (Hqx0.out.next hb)
  replace Hqx1 := hide (Hqx1.out.next hb)
  replace HW := hide (below_on HW.out hb)
  have z12 := hb.size
  clear hb
  have lo_td2 : ∀ b ∈ tb2, u15.heap.size ≤ b := fun b hb => (HoldsL.lt _ _ _ to2 b hb).1
  have hi_td2 : ∀ b ∈ tb2, b < u16.heap.size := fun b hb => (HoldsL.lt _ _ _ to2 b hb).2
  have Htd2 := hide (Keep.data to2)
  clear to2
  have Hlo_td2 := hide lo_td2
  have Hhi_td2 := hide hi_td2
  clear lo_td2 hi_td2
  go_wp2_with fail
  refine (HhE2.out _ s2_a0 s2_k0 t2_a0 t2_k0 _ _ _ _ Hsd2.out.here Htd2.out.here).mono ?_
  rintro e u17 ⟨rfl, hb⟩
  replace Hax0 := hide (Hax0.out.next hb)
  replace Hpd0 := hide (Hpd0.out.next hb)
  replace Hpx0 := hide (Hpx0.out.next hb)
  replace Hpx1 := hide (Hpx1.out.next hb)
  replace Hsd0 := hide (Hsd0.out.next hb)
  replace Hsx0 := hide (Hsx0.out.next hb)
  replace Hsd2 := hide (Hsd2.out.next hb)
  replace Hqd0 := hide (Hqd0.out.next hb)
  replace Hqx0 := hide (Hqx0.out.next hb)
  replace Hqx1 := hide (Hqx1.out.next hb)
  replace Htd2 := hide (Htd2.out.next hb)
  replace HW := hide (below_on HW.out hb)
  have z13 := hb.size
  clear hb
  clear Htd2
  clear Hlo_td2 Hhi_td2
  have c_sx0_0 : (u17).cell? ⟨u7.heap.size, 0, none⟩ = some (.int .i64 x0_0) := cell_of_row _ _ 0 _ _ _ Hsx0.out.here
  have c_sx0_1 : (u17).cell? ⟨u7.heap.size, 1, none⟩ = some (.int .i64 x0_1) := cell_of_row _ _ 1 _ _ _ Hsx0.out.here
  have c_sx0_2 : (u17).cell? ⟨u7.heap.size, 2, none⟩ = some (.slice s0_a0 n0_0 s0_k0) := cell_of_row _ _ 2 _ _ _ Hsx0.out.here
  go_wp2_with fail
  refine (HhM0.out _ s0_a0 s0_k0 _ _ Hsd0.out.here Hsn0.out).mono ?_
  rintro e u18 ⟨rfl, hon⟩
  clear c_sx0_0 c_sx0_1 c_sx0_2
  replace Hax0 := hide (Hax0.out.only hon (fun b hb hm => by have h1 := List.mem_singleton.1 hb; have h3 := Hlo_sd0.out b hm; have h4 := Hhi_sd0.out b hm; omega))
  replace Hpd0 := hide (Hpd0.out.only hon (fun b hb hm => by have h1 := Hlo_pd0.out b hb; have h2 := Hhi_pd0.out b hb; have h3 := Hlo_sd0.out b hm; have h4 := Hhi_sd0.out b hm; omega))
  replace Hpx0 := hide (Hpx0.out.only hon (fun b hb hm => by have h1 := List.mem_singleton.1 hb; have h3 := Hlo_sd0.out b hm; have h4 := Hhi_sd0.out b hm; omega))
  replace Hpx1 := hide (Hpx1.out.only hon (fun b hb hm => by have h1 := List.mem_singleton.1 hb; have h3 := Hlo_sd0.out b hm; have h4 := Hhi_sd0.out b hm; omega))
  replace Hsx0 := hide (Hsx0.out.only hon (fun b hb hm => by have h1 := List.mem_singleton.1 hb; have h3 := Hlo_sd0.out b hm; have h4 := Hhi_sd0.out b hm; omega))
  replace Hsd2 := hide (Hsd2.out.only hon (fun b hb hm => by have h1 := Hlo_sd2.out b hb; have h2 := Hhi_sd2.out b hb; have h3 := Hlo_sd0.out b hm; have h4 := Hhi_sd0.out b hm; omega))
  replace Hqd0 := hide (Hqd0.out.only hon (fun b hb hm => by have h1 := Hlo_qd0.out b hb; have h2 := Hhi_qd0.out b hb; have h3 := Hlo_sd0.out b hm; have h4 := Hhi_sd0.out b hm; omega))
  replace Hqx0 := hide (Hqx0.out.only hon (fun b hb hm => by have h1 := List.mem_singleton.1 hb; have h3 := Hlo_sd0.out b hm; have h4 := Hhi_sd0.out b hm; omega))
  replace Hqx1 := hide (Hqx1.out.only hon (fun b hb hm => by have h1 := List.mem_singleton.1 hb; have h3 := Hlo_sd0.out b hm; have h4 := Hhi_sd0.out b hm; omega))
  replace HW := hide (below_only HW.out hon (fun b hb => by have h1 := Hlo_sd0.out b hb; omega))
  have z14 := hon.size
  clear hon
  clear Hsd0
  clear Hlo_sd0 Hhi_sd0
  have c_sx0_0 : (u18).cell? ⟨u7.heap.size, 0, none⟩ = some (.int .i64 x0_0) := cell_of_row _ _ 0 _ _ _ Hsx0.out.here
  have c_sx0_1 : (u18).cell? ⟨u7.heap.size, 1, none⟩ = some (.int .i64 x0_1) := cell_of_row _ _ 1 _ _ _ Hsx0.out.here
  have c_sx0_2 : (u18).cell? ⟨u7.heap.size, 2, none⟩ = some (.slice s0_a0 n0_0 s0_k0) := cell_of_row _ _ 2 _ _ _ Hsx0.out.here
  go_wp2_with fail
  refine (HhM2.out _ s2_a0 s2_k0 _ _ Hsd2.out.here Hsn2.out).mono ?_
  rintro e u19 ⟨rfl, hon⟩
  clear c_sx0_0 c_sx0_1 c_sx0_2
  replace Hax0 := hide (Hax0.out.only hon (fun b hb hm => by have h1 := List.mem_singleton.1 hb; have h3 := Hlo_sd2.out b hm; have h4 := Hhi_sd2.out b hm; omega))
  replace Hpd0 := hide (Hpd0.out.only hon (fun b hb hm => by have h1 := Hlo_pd0.out b hb; have h2 := Hhi_pd0.out b hb; have h3 := Hlo_sd2.out b hm; have h4 := Hhi_sd2.out b hm; omega))
  replace Hpx0 := hide (Hpx0.out.only hon (fun b hb hm => by have h1 := List.mem_singleton.1 hb; have h3 := Hlo_sd2.out b hm; have h4 := Hhi_sd2.out b hm; omega))
  replace Hpx1 := hide (Hpx1.out.only hon (fun b hb hm => by have h1 := List.mem_singleton.1 hb; have h3 := Hlo_sd2.out b hm; have h4 := Hhi_sd2.out b hm; omega))
  replace Hsx0 := hide (Hsx0.out.only hon (fun b hb hm => by have h1 := List.mem_singleton.1 hb; have h3 := Hlo_sd2.out b hm; have h4 := Hhi_sd2.out b hm; omega))
  replace Hqd0 := hide (Hqd0.out.only hon (fun b hb hm => by have h1 := Hlo_qd0.out b hb; have h2 := Hhi_qd0.out b hb; have h3 := Hlo_sd2.out b hm; have h4 := Hhi_sd2.out b hm; omega))
  replace Hqx0 := hide (Hqx0.out.only hon (fun b hb hm => by have h1 := List.mem_singleton.1 hb; have h3 := Hlo_sd2.out b hm; have h4 := Hhi_sd2.out b hm; omega))
  replace Hqx1 := hide (Hqx1.out.only hon (fun b hb hm => by have h1 := List.mem_singleton.1 hb; have h3 := Hlo_sd2.out b hm; have h4 := Hhi_sd2.out b hm; omega))
  replace HW := hide (below_only HW.out hon (fun b hb => by have h1 := Hlo_sd2.out b hb; omega))
  have z15 := hon.size
  clear hon
  clear Hsd2
  clear Hlo_sd2 Hhi_sd2
  have c_px0_0 : (u19).cell? ⟨u5.heap.size, 0, none⟩ = some (.int .i64 y0_0) := cell_of_row _ _ 0 _ _ _ Hpx0.out.here
  have c_px0_1 : (u19).cell? ⟨u5.heap.size, 1, none⟩ = some (.int .i64 y0_1) := cell_of_row _ _ 1 _ _ _ Hpx0.out.here
  have c_px0_2 : (u19).cell? ⟨u5.heap.size, 2, none⟩ = some (.slice p0_a0 N0_0 p0_k0) := cell_of_row _ _ 2 _ _ _ Hpx0.out.here
  have c_px1_0 : (u19).cell? ⟨u5.heap.size + 1, 0, none⟩ = some (.int .i64 y1_0) := cell_of_row _ _ 0 _ _ _ Hpx1.out.here
  have c_px1_1 : (u19).cell? ⟨u5.heap.size + 1, 1, none⟩ = some (.int .i64 y1_1) := cell_of_row _ _ 1 _ _ _ Hpx1.out.here
  have c_px1_2 : (u19).cell? ⟨u5.heap.size + 1, 2, none⟩ = some (.int .i64 y1_2) := cell_of_row _ _ 2 _ _ _ Hpx1.out.here
  have c_qx0_0 : (u19).cell? ⟨u10.heap.size, 0, none⟩ = some (.int .i64 y0_0) := cell_of_row _ _ 0 _ _ _ Hqx0.out.here
  have c_qx0_1 : (u19).cell? ⟨u10.heap.size, 1, none⟩ = some (.int .i64 y0_1) := cell_of_row _ _ 1 _ _ _ Hqx0.out.here
  have c_qx0_2 : (u19).cell? ⟨u10.heap.size, 2, none⟩ = some (.slice q0_a0 N0_0 q0_k0) := cell_of_row _ _ 2 _ _ _ Hqx0.out.here
  have c_qx1_0 : (u19).cell? ⟨u10.heap.size + 1, 0, none⟩ = some (.int .i64 y1_0) := cell_of_row _ _ 0 _ _ _ Hqx1.out.here
  have c_qx1_1 : (u19).cell? ⟨u10.heap.size + 1, 1, none⟩ = some (.int .i64 y1_1) := cell_of_row _ _ 1 _ _ _ Hqx1.out.here
  have c_qx1_2 : (u19).cell? ⟨u10.heap.size + 1, 2, none⟩ = some (.int .i64 y1_2) := cell_of_row _ _ 2 _ _ _ Hqx1.out.here
  go_wp2_with fail
  clear c_px0_0 c_px0_1 c_px0_2 c_px1_0 c_px1_1 c_px1_2 c_qx0_0 c_qx0_1 c_qx0_2 c_qx1_0 c_qx1_1 c_qx1_2
  refine (HhQ0.out _ q0_a0 q0_k0 p0_a0 p0_k0 _ _ _ _ Hqd0.out.here Hpd0.out.here).mono ?_
  rintro e u20 ⟨rfl, hb⟩
  replace Hax0 := hide (Hax0.out.next hb)
  replace Hpd0 := hide (Hpd0.out.next hb)
  replace Hpx0 := hide (Hpx0.out.next hb)
  replace Hpx1 := hide (Hpx1.out.next hb)
  replace Hsx0 := hide (Hsx0.out.next hb)
  replace Hqd0 := hide (Hqd0.out.next hb)
  replace Hqx0 := hide (Hqx0.out.next hb)
  replace Hqx1 := hide (Hqx1.out.next hb)
  replace HW := hide (below_on HW.out hb)
  have z16 := hb.size
  clear hb
  have c_px0_0 : (u20).cell? ⟨u5.heap.size, 0, none⟩ = some (.int .i64 y0_0) := cell_of_row _ _ 0 _ _ _ Hpx0.out.here
  have c_px0_1 : (u20).cell? ⟨u5.heap.size, 1, none⟩ = some (.int .i64 y0_1) := cell_of_row _ _ 1 _ _ _ Hpx0.out.here
  have c_px0_2 : (u20).cell? ⟨u5.heap.size, 2, none⟩ = some (.slice p0_a0 N0_0 p0_k0) := cell_of_row _ _ 2 _ _ _ Hpx0.out.here
  have c_px1_0 : (u20).cell? ⟨u5.heap.size + 1, 0, none⟩ = some (.int .i64 y1_0) := cell_of_row _ _ 0 _ _ _ Hpx1.out.here
  have c_px1_1 : (u20).cell? ⟨u5.heap.size + 1, 1, none⟩ = some (.int .i64 y1_1) := cell_of_row _ _ 1 _ _ _ Hpx1.out.here
  have c_px1_2 : (u20).cell? ⟨u5.heap.size + 1, 2, none⟩ = some (.int .i64 y1_2) := cell_of_row _ _ 2 _ _ _ Hpx1.out.here
  have c_qx0_0 : (u20).cell? ⟨u10.heap.size, 0, none⟩ = some (.int .i64 y0_0) := cell_of_row _ _ 0 _ _ _ Hqx0.out.here
  have c_qx0_1 : (u20).cell? ⟨u10.heap.size, 1, none⟩ = some (.int .i64 y0_1) := cell_of_row _ _ 1 _ _ _ Hqx0.out.here
  have c_qx0_2 : (u20).cell? ⟨u10.heap.size, 2, none⟩ = some (.slice q0_a0 N0_0 q0_k0) := cell_of_row _ _ 2 _ _ _ Hqx0.out.here
  have c_qx1_0 : (u20).cell? ⟨u10.heap.size + 1, 0, none⟩ = some (.int .i64 y1_0) := cell_of_row _ _ 0 _ _ _ Hqx1.out.here
  have c_qx1_1 : (u20).cell? ⟨u10.heap.size + 1, 1, none⟩ = some (.int .i64 y1_1) := cell_of_row _ _ 1 _ _ _ Hqx1.out.here
  have c_qx1_2 : (u20).cell? ⟨u10.heap.size + 1, 2, none⟩ = some (.int .i64 y1_2) := cell_of_row _ _ 2 _ _ _ Hqx1.out.here
  go_wp2_with fail
  refine (HhQ1.out _).mono ?_
  rintro e u21 ⟨rfl, hb⟩
  clear c_px0_0 c_px0_1 c_px0_2 c_px1_0 c_px1_1 c_px1_2 c_qx0_0 c_qx0_1 c_qx0_2 c_qx1_0 c_qx1_1 c_qx1_2
  replace Hax0 := hide (Hax0.out.next hb)
  replace Hpd0 := hide (Hpd0.out.next hb)
  replace Hpx0 := hide (Hpx0.out.next hb)
  replace Hpx1 := hide (Hpx1.out.next hb)
  replace Hsx0 := hide (Hsx0.out.next hb)
  replace Hqd0 := hide (Hqd0.out.next hb)
  replace Hqx0 := hide (Hqx0.out.next hb)
  replace Hqx1 := hide (Hqx1.out.next hb)
  replace HW := hide (below_on HW.out hb)
  have z17 := hb.size
  clear hb
  have c_qx0_0 : (u21).cell? ⟨u10.heap.size, 0, none⟩ = some (.int .i64 y0_0) := cell_of_row _ _ 0 _ _ _ Hqx0.out.here
  have c_qx0_1 : (u21).cell? ⟨u10.heap.size, 1, none⟩ = some (.int .i64 y0_1) := cell_of_row _ _ 1 _ _ _ Hqx0.out.here
  have c_qx0_2 : (u21).cell? ⟨u10.heap.size, 2, none⟩ = some (.slice q0_a0 N0_0 q0_k0) := cell_of_row _ _ 2 _ _ _ Hqx0.out.here
  have c_qx1_0 : (u21).cell? ⟨u10.heap.size + 1, 0, none⟩ = some (.int .i64 y1_0) := cell_of_row _ _ 0 _ _ _ Hqx1.out.here
  have c_qx1_1 : (u21).cell? ⟨u10.heap.size + 1, 1, none⟩ = some (.int .i64 y1_1) := cell_of_row _ _ 1 _ _ _ Hqx1.out.here
  have c_qx1_2 : (u21).cell? ⟨u10.heap.size + 1, 2, none⟩ = some (.int .i64 y1_2) := cell_of_row _ _ 2 _ _ _ Hqx1.out.here
  go_wp2_with fail
  refine (HhN0.out _ q0_a0 q0_k0 _ _ Hqd0.out.here Hqn.out).mono ?_
  rintro e u22 ⟨rfl, hmk, hon⟩
  clear c_qx0_0 c_qx0_1 c_qx0_2 c_qx1_0 c_qx1_1 c_qx1_2
  replace Hax0 := hide (Hax0.out.only hon (fun b hb hm => by have h1 := List.mem_singleton.1 hb; have h3 := Hlo_qd0.out b hm; have h4 := Hhi_qd0.out b hm; omega))
  replace Hpd0 := hide (Hpd0.out.only hon (fun b hb hm => by have h1 := Hlo_pd0.out b hb; have h2 := Hhi_pd0.out b hb; have h3 := Hlo_qd0.out b hm; have h4 := Hhi_qd0.out b hm; omega))
  replace Hpx0 := hide (Hpx0.out.only hon (fun b hb hm => by have h1 := List.mem_singleton.1 hb; have h3 := Hlo_qd0.out b hm; have h4 := Hhi_qd0.out b hm; omega))
  replace Hpx1 := hide (Hpx1.out.only hon (fun b hb hm => by have h1 := List.mem_singleton.1 hb; have h3 := Hlo_qd0.out b hm; have h4 := Hhi_qd0.out b hm; omega))
  replace Hsx0 := hide (Hsx0.out.only hon (fun b hb hm => by have h1 := List.mem_singleton.1 hb; have h3 := Hlo_qd0.out b hm; have h4 := Hhi_qd0.out b hm; omega))
  replace Hqx0 := hide (Hqx0.out.only hon (fun b hb hm => by have h1 := List.mem_singleton.1 hb; have h3 := Hlo_qd0.out b hm; have h4 := Hhi_qd0.out b hm; omega))
  replace Hqx1 := hide (Hqx1.out.only hon (fun b hb hm => by have h1 := List.mem_singleton.1 hb; have h3 := Hlo_qd0.out b hm; have h4 := Hhi_qd0.out b hm; omega))
  replace HW := hide (below_only HW.out hon (fun b hb => by have h1 := Hlo_qd0.out b hb; omega))
  replace Hqd0 := hide (Keep.data hmk)
  have z18 := hon.size
  clear hon hmk
  have c_qx0_0 : (u22).cell? ⟨u10.heap.size, 0, none⟩ = some (.int .i64 y0_0) := cell_of_row _ _ 0 _ _ _ Hqx0.out.here
  have c_qx0_1 : (u22).cell? ⟨u10.heap.size, 1, none⟩ = some (.int .i64 y0_1) := cell_of_row _ _ 1 _ _ _ Hqx0.out.here
  have c_qx0_2 : (u22).cell? ⟨u10.heap.size, 2, none⟩ = some (.slice q0_a0 N0_0 q0_k0) := cell_of_row _ _ 2 _ _ _ Hqx0.out.here
  have c_qx1_0 : (u22).cell? ⟨u10.heap.size + 1, 0, none⟩ = some (.int .i64 y1_0) := cell_of_row _ _ 0 _ _ _ Hqx1.out.here
  have c_qx1_1 : (u22).cell? ⟨u10.heap.size + 1, 1, none⟩ = some (.int .i64 y1_1) := cell_of_row _ _ 1 _ _ _ Hqx1.out.here
  have c_qx1_2 : (u22).cell? ⟨u10.heap.size + 1, 2, none⟩ = some (.int .i64 y1_2) := cell_of_row _ _ 2 _ _ _ Hqx1.out.here
  go_wp2_with fail
  refine (HhH0.out _ q0_a0 q0_k0 _ _ Hqd0.out.here).mono ?_
  rintro e u23 ⟨rfl, hb⟩
  clear c_qx0_0 c_qx0_1 c_qx0_2 c_qx1_0 c_qx1_1 c_qx1_2
  replace Hax0 := hide (Hax0.out.next hb)
  replace Hpd0 := hide (Hpd0.out.next hb)
  replace Hpx0 := hide (Hpx0.out.next hb)
  replace Hpx1 := hide (Hpx1.out.next hb)
  replace Hsx0 := hide (Hsx0.out.next hb)
  replace Hqd0 := hide (Hqd0.out.next hb)
  replace Hqx0 := hide (Hqx0.out.next hb)
  replace Hqx1 := hide (Hqx1.out.next hb)
  replace HW := hide (below_on HW.out hb)
  have z19 := hb.size
  clear hb
  have c_ax0_0 : (u23).cell? ⟨w.heap.size, 0, none⟩ = some (.int .i64 x0_0) := cell_of_row _ _ 0 _ _ _ Hax0.out.here
  have c_ax0_1 : (u23).cell? ⟨w.heap.size, 1, none⟩ = some (.int .i64 x0_1) := cell_of_row _ _ 1 _ _ _ Hax0.out.here
  have c_ax0_2 : (u23).cell? ⟨w.heap.size, 2, none⟩ = some (.slice o0_a0 n0_0 o0_k0) := cell_of_row _ _ 2 _ _ _ Hax0.out.here
  go_wp2_with fail
  refine (HhT0.out _ HW.out).mono ?_
  rintro e u24 ⟨t0_a0, t0_k0, tb0, rfl, to0, tn0, hb⟩
  have Htn0 := hide tn0
  clear tn0
  clear c_ax0_0 c_ax0_1 c_ax0_2
  replace Hax0 := hide (Hax0.out.next hb)
  replace Hpd0 := hide (Hpd0.out.next hb)
  replace Hpx0 := hide (Hpx0.out.next hb)
  replace Hpx1 := hide (Hpx1.out.next hb)
  replace Hsx0 := hide (Hsx0.out.next hb)
  replace Hqd0 := hide (Hqd0.out.next hb)
  replace Hqx0 := hide (Hqx0.out.next hb)
  replace Hqx1 := hide (Hqx1.out.next hb)
  replace HW := hide (below_on HW.out hb)
  have z20 := hb.size
  clear hb
  have lo_td0 : ∀ b ∈ tb0, u23.heap.size ≤ b := fun b hb => (HoldsL.lt _ _ _ to0 b hb).1
  have hi_td0 : ∀ b ∈ tb0, b < u24.heap.size := fun b hb => (HoldsL.lt _ _ _ to0 b hb).2
  have Htd0 := hide (Keep.data to0)
  clear to0
  have Hlo_td0 := hide lo_td0
  have Hhi_td0 := hide hi_td0
  clear lo_td0 hi_td0
  have c_ax0_0 : (u24).cell? ⟨w.heap.size, 0, none⟩ = some (.int .i64 x0_0) := cell_of_row _ _ 0 _ _ _ Hax0.out.here
  have c_ax0_1 : (u24).cell? ⟨w.heap.size, 1, none⟩ = some (.int .i64 x0_1) := cell_of_row _ _ 1 _ _ _ Hax0.out.here
  have c_ax0_2 : (u24).cell? ⟨w.heap.size, 2, none⟩ = some (.slice o0_a0 n0_0 o0_k0) := cell_of_row _ _ 2 _ _ _ Hax0.out.here
  go_wp2_with fail
  refine (HhT2.out _ HW.out).mono ?_
  rintro e u25 ⟨t2_a0, t2_k0, tb2, rfl, to2, tn2, hb⟩
  have Htn2 := hide tn2
  clear tn2
  clear c_ax0_0 c_ax0_1 c_ax0_2
  replace Hax0 := hide (Hax0.out.next hb)
  replace Hpd0 := hide (Hpd0.out.next hb)
  replace Hpx0 := hide (Hpx0.out.next hb)
  replace Hpx1 := hide (Hpx1.out.next hb)
  replace Hsx0 := hide (Hsx0.out.next hb)
  replace Hqd0 := hide (Hqd0.out.next hb)
  replace Hqx0 := hide (Hqx0.out.next hb)
  replace Hqx1 := hide (Hqx1.out.next hb)
  replace Htd0 := hide (Htd0.out.next hb)
  replace HW := hide (below_on HW.out hb)
  have z21 := hb.size
  clear hb
  have lo_td2 : ∀ b ∈ tb2, u24.heap.size ≤ b := fun b hb => (HoldsL.lt _ _ _ to2 b hb).1
  have hi_td2 : ∀ b ∈ tb2, b < u25.heap.size := fun b hb => (HoldsL.lt _ _ _ to2 b hb).2
  have Htd2 := hide (Keep.data to2)
  clear to2
  have Hlo_td2 := hide lo_td2
  have Hhi_td2 := hide hi_td2
  clear lo_td2 hi_td2
  go_wp2_with fail
  refine (HhI.out _ t0_a0 t0_k0 _ _ t2_a0 t2_k0 _ _ HW.out Htd0.out.here Htd2.out.here).mono ?_
  rintro e u26 ⟨h0_a0, h0_k0, hf0, rfl, ho0, hn, hb⟩
  have Hhn := hide hn
  clear hn
  replace Hax0 := hide (Hax0.out.next hb)
  replace Hpd0 := hide (Hpd0.out.next hb)
  replace Hpx0 := hide (Hpx0.out.next hb)
  replace Hpx1 := hide (Hpx1.out.next hb)
  replace Hsx0 := hide (Hsx0.out.next hb)
  replace Hqd0 := hide (Hqd0.out.next hb)
  replace Hqx0 := hide (Hqx0.out.next hb)
  replace Hqx1 := hide (Hqx1.out.next hb)
  replace Htd0 := hide (Htd0.out.next hb)
  replace Htd2 := hide (Htd2.out.next hb)
  replace HW := hide (below_on HW.out hb)
  have z22 := hb.size
  clear hb
  have lo_hd0 : ∀ b ∈ hf0, u25.heap.size ≤ b := fun b hb => (HoldsL.lt _ _ _ ho0 b hb).1
  have hi_hd0 : ∀ b ∈ hf0, b < u26.heap.size := fun b hb => (HoldsL.lt _ _ _ ho0 b hb).2
  have Hhd0 := hide (Keep.data ho0)
  clear ho0
  have Hlo_hd0 := hide lo_hd0
  have Hhi_hd0 := hide hi_hd0
  clear lo_hd0 hi_hd0
  clear Htd0
  clear Hlo_td0 Hhi_td0
  clear Htd2
  clear Hlo_td2 Hhi_td2
  have hal := (Below.refl (u26).heap.size (u26)).alloc (Nat.le_refl _) (.cells #[.int .i64 y0_0, .int .i64 y0_1, .slice h0_a0 N0_0 h0_k0] 28)
  have hsz22 := World.size_alloc (u26) (.cells #[.int .i64 y0_0, .int .i64 y0_1, .slice h0_a0 N0_0 h0_k0] 28)
  have Hhx0 := hide (Keep.new (u26) (.cells #[.int .i64 y0_0, .int .i64 y0_1, .slice h0_a0 N0_0 h0_k0] 28))
  replace Hax0 := hide (Hax0.out.next hal)
  replace Hpd0 := hide (Hpd0.out.next hal)
  replace Hpx0 := hide (Hpx0.out.next hal)
  replace Hpx1 := hide (Hpx1.out.next hal)
  replace Hsx0 := hide (Hsx0.out.next hal)
  replace Hqd0 := hide (Hqd0.out.next hal)
  replace Hqx0 := hide (Hqx0.out.next hal)
  replace Hqx1 := hide (Hqx1.out.next hal)
  replace Hhd0 := hide (Hhd0.out.next hal)
  replace HW := hide (below_on HW.out hal)
  clear hal
  have hal := (Below.refl ((u26).alloc (.cells #[.int .i64 y0_0, .int .i64 y0_1, .slice h0_a0 N0_0 h0_k0] 28)).heap.size ((u26).alloc (.cells #[.int .i64 y0_0, .int .i64 y0_1, .slice h0_a0 N0_0 h0_k0] 28))).alloc (Nat.le_refl _) (.cells #[.int .i64 y1_0, .int .i64 y1_1, .int .i64 y1_2] 41)
  have hsz22 := World.size_alloc ((u26).alloc (.cells #[.int .i64 y0_0, .int .i64 y0_1, .slice h0_a0 N0_0 h0_k0] 28)) (.cells #[.int .i64 y1_0, .int .i64 y1_1, .int .i64 y1_2] 41)
  have Hhx1 := hide (Keep.new ((u26).alloc (.cells #[.int .i64 y0_0, .int .i64 y0_1, .slice h0_a0 N0_0 h0_k0] 28)) (.cells #[.int .i64 y1_0, .int .i64 y1_1, .int .i64 y1_2] 41))
  rw [show ((u26).alloc (.cells #[.int .i64 y0_0, .int .i64 y0_1, .slice h0_a0 N0_0 h0_k0] 28)).heap.size = u26.heap.size + 1 from by simp only [World.size_alloc]] at Hhx1
  replace Hax0 := hide (Hax0.out.next hal)
  replace Hpd0 := hide (Hpd0.out.next hal)
  replace Hpx0 := hide (Hpx0.out.next hal)
  replace Hpx1 := hide (Hpx1.out.next hal)
  replace Hsx0 := hide (Hsx0.out.next hal)
  replace Hqd0 := hide (Hqd0.out.next hal)
  replace Hqx0 := hide (Hqx0.out.next hal)
  replace Hqx1 := hide (Hqx1.out.next hal)
  replace Hhd0 := hide (Hhd0.out.next hal)
  replace Hhx0 := hide (Hhx0.out.next hal)
  replace HW := hide (below_on HW.out hal)
  clear hal
  have c_px0_0 : (((u26).alloc (.cells #[.int .i64 y0_0, .int .i64 y0_1, .slice h0_a0 N0_0 h0_k0] 28)).alloc (.cells #[.int .i64 y1_0, .int .i64 y1_1, .int .i64 y1_2] 41)).cell? ⟨u5.heap.size, 0, none⟩ = some (.int .i64 y0_0) := cell_of_row _ _ 0 _ _ _ Hpx0.out.here
  have c_px0_1 : (((u26).alloc (.cells #[.int .i64 y0_0, .int .i64 y0_1, .slice h0_a0 N0_0 h0_k0] 28)).alloc (.cells #[.int .i64 y1_0, .int .i64 y1_1, .int .i64 y1_2] 41)).cell? ⟨u5.heap.size, 1, none⟩ = some (.int .i64 y0_1) := cell_of_row _ _ 1 _ _ _ Hpx0.out.here
  have c_px0_2 : (((u26).alloc (.cells #[.int .i64 y0_0, .int .i64 y0_1, .slice h0_a0 N0_0 h0_k0] 28)).alloc (.cells #[.int .i64 y1_0, .int .i64 y1_1, .int .i64 y1_2] 41)).cell? ⟨u5.heap.size, 2, none⟩ = some (.slice p0_a0 N0_0 p0_k0) := cell_of_row _ _ 2 _ _ _ Hpx0.out.here
  have c_px1_0 : (((u26).alloc (.cells #[.int .i64 y0_0, .int .i64 y0_1, .slice h0_a0 N0_0 h0_k0] 28)).alloc (.cells #[.int .i64 y1_0, .int .i64 y1_1, .int .i64 y1_2] 41)).cell? ⟨u5.heap.size + 1, 0, none⟩ = some (.int .i64 y1_0) := cell_of_row _ _ 0 _ _ _ Hpx1.out.here
  have c_px1_1 : (((u26).alloc (.cells #[.int .i64 y0_0, .int .i64 y0_1, .slice h0_a0 N0_0 h0_k0] 28)).alloc (.cells #[.int .i64 y1_0, .int .i64 y1_1, .int .i64 y1_2] 41)).cell? ⟨u5.heap.size + 1, 1, none⟩ = some (.int .i64 y1_1) := cell_of_row _ _ 1 _ _ _ Hpx1.out.here
  have c_px1_2 : (((u26).alloc (.cells #[.int .i64 y0_0, .int .i64 y0_1, .slice h0_a0 N0_0 h0_k0] 28)).alloc (.cells #[.int .i64 y1_0, .int .i64 y1_1, .int .i64 y1_2] 41)).cell? ⟨u5.heap.size + 1, 2, none⟩ = some (.int .i64 y1_2) := cell_of_row _ _ 2 _ _ _ Hpx1.out.here
  have c_hx0_0 : (((u26).alloc (.cells #[.int .i64 y0_0, .int .i64 y0_1, .slice h0_a0 N0_0 h0_k0] 28)).alloc (.cells #[.int .i64 y1_0, .int .i64 y1_1, .int .i64 y1_2] 41)).cell? ⟨u26.heap.size, 0, none⟩ = some (.int .i64 y0_0) := cell_of_row _ _ 0 _ _ _ Hhx0.out.here
  have c_hx0_1 : (((u26).alloc (.cells #[.int .i64 y0_0, .int .i64 y0_1, .slice h0_a0 N0_0 h0_k0] 28)).alloc (.cells #[.int .i64 y1_0, .int .i64 y1_1, .int .i64 y1_2] 41)).cell? ⟨u26.heap.size, 1, none⟩ = some (.int .i64 y0_1) := cell_of_row _ _ 1 _ _ _ Hhx0.out.here
  have c_hx0_2 : (((u26).alloc (.cells #[.int .i64 y0_0, .int .i64 y0_1, .slice h0_a0 N0_0 h0_k0] 28)).alloc (.cells #[.int .i64 y1_0, .int .i64 y1_1, .int .i64 y1_2] 41)).cell? ⟨u26.heap.size, 2, none⟩ = some (.slice h0_a0 N0_0 h0_k0) := cell_of_row _ _ 2 _ _ _ Hhx0.out.here
  have c_hx1_0 : (((u26).alloc (.cells #[.int .i64 y0_0, .int .i64 y0_1, .slice h0_a0 N0_0 h0_k0] 28)).alloc (.cells #[.int .i64 y1_0, .int .i64 y1_1, .int .i64 y1_2] 41)).cell? ⟨u26.heap.size + 1, 0, none⟩ = some (.int .i64 y1_0) := cell_of_row _ _ 0 _ _ _ Hhx1.out.here
  have c_hx1_1 : (((u26).alloc (.cells #[.int .i64 y0_0, .int .i64 y0_1, .slice h0_a0 N0_0 h0_k0] 28)).alloc (.cells #[.int .i64 y1_0, .int .i64 y1_1, .int .i64 y1_2] 41)).cell? ⟨u26.heap.size + 1, 1, none⟩ = some (.int .i64 y1_1) := cell_of_row _ _ 1 _ _ _ Hhx1.out.here
  have c_hx1_2 : (((u26).alloc (.cells #[.int .i64 y0_0, .int .i64 y0_1, .slice h0_a0 N0_0 h0_k0] 28)).alloc (.cells #[.int .i64 y1_0, .int .i64 y1_1, .int .i64 y1_2] 41)).cell? ⟨u26.heap.size + 1, 2, none⟩ = some (.int .i64 y1_2) := cell_of_row _ _ 2 _ _ _ Hhx1.out.here
  go_wp2_with fail
  generalize ((u26).alloc (.cells #[.int .i64 y0_0, .int .i64 y0_1, .slice h0_a0 N0_0 h0_k0] 28)).alloc (.cells #[.int .i64 y1_0, .int .i64 y1_1, .int .i64 y1_2] 41) = V27 at *
  clear c_px0_0 c_px0_1 c_px0_2 c_px1_0 c_px1_1 c_px1_2 c_hx0_0 c_hx0_1 c_hx0_2 c_hx1_0 c_hx1_1 c_hx1_2
  refine (HhQ0.out _ h0_a0 h0_k0 p0_a0 p0_k0 _ _ _ _ Hhd0.out.here Hpd0.out.here).mono ?_
  rintro e u28 ⟨rfl, hb⟩
  replace Hax0 := hide (Hax0.out.next hb)
  replace Hpd0 := hide (Hpd0.out.next hb)
  replace Hpx0 := hide (Hpx0.out.next hb)
  replace Hpx1 := hide (Hpx1.out.next hb)
  replace Hsx0 := hide (Hsx0.out.next hb)
  replace Hqd0 := hide (Hqd0.out.next hb)
  replace Hqx0 := hide (Hqx0.out.next hb)
  replace Hqx1 := hide (Hqx1.out.next hb)
  replace Hhd0 := hide (Hhd0.out.next hb)
  replace Hhx0 := hide (Hhx0.out.next hb)
  replace Hhx1 := hide (Hhx1.out.next hb)
  replace HW := hide (below_on HW.out hb)
  have z23 := hb.size
  clear hb
  have c_px0_0 : (u28).cell? ⟨u5.heap.size, 0, none⟩ = some (.int .i64 y0_0) := cell_of_row _ _ 0 _ _ _ Hpx0.out.here
  have c_px0_1 : (u28).cell? ⟨u5.heap.size, 1, none⟩ = some (.int .i64 y0_1) := cell_of_row _ _ 1 _ _ _ Hpx0.out.here
  have c_px0_2 : (u28).cell? ⟨u5.heap.size, 2, none⟩ = some (.slice p0_a0 N0_0 p0_k0) := cell_of_row _ _ 2 _ _ _ Hpx0.out.here
  have c_px1_0 : (u28).cell? ⟨u5.heap.size + 1, 0, none⟩ = some (.int .i64 y1_0) := cell_of_row _ _ 0 _ _ _ Hpx1.out.here
  have c_px1_1 : (u28).cell? ⟨u5.heap.size + 1, 1, none⟩ = some (.int .i64 y1_1) := cell_of_row _ _ 1 _ _ _ Hpx1.out.here
  have c_px1_2 : (u28).cell? ⟨u5.heap.size + 1, 2, none⟩ = some (.int .i64 y1_2) := cell_of_row _ _ 2 _ _ _ Hpx1.out.here
  have c_hx0_0 : (u28).cell? ⟨u26.heap.size, 0, none⟩ = some (.int .i64 y0_0) := cell_of_row _ _ 0 _ _ _ Hhx0.out.here
  have c_hx0_1 : (u28).cell? ⟨u26.heap.size, 1, none⟩ = some (.int .i64 y0_1) := cell_of_row _ _ 1 _ _ _ Hhx0.out.here
  have c_hx0_2 : (u28).cell? ⟨u26.heap.size, 2, none⟩ = some (.slice h0_a0 N0_0 h0_k0) := cell_of_row _ _ 2 _ _ _ Hhx0.out.here
  have c_hx1_0 : (u28).cell? ⟨u26.heap.size + 1, 0, none⟩ = some (.int .i64 y1_0) := cell_of_row _ _ 0 _ _ _ Hhx1.out.here
  have c_hx1_1 : (u28).cell? ⟨u26.heap.size + 1, 1, none⟩ = some (.int .i64 y1_1) := cell_of_row _ _ 1 _ _ _ Hhx1.out.here
  have c_hx1_2 : (u28).cell? ⟨u26.heap.size + 1, 2, none⟩ = some (.int .i64 y1_2) := cell_of_row _ _ 2 _ _ _ Hhx1.out.here
  go_wp2_with fail
  refine (HhQ1.out _).mono ?_
  rintro e u29 ⟨rfl, hb⟩
  clear c_px0_0 c_px0_1 c_px0_2 c_px1_0 c_px1_1 c_px1_2 c_hx0_0 c_hx0_1 c_hx0_2 c_hx1_0 c_hx1_1 c_hx1_2
  replace Hax0 := hide (Hax0.out.next hb)
  replace Hpd0 := hide (Hpd0.out.next hb)
  replace Hpx0 := hide (Hpx0.out.next hb)
  replace Hpx1 := hide (Hpx1.out.next hb)
  replace Hsx0 := hide (Hsx0.out.next hb)
  replace Hqd0 := hide (Hqd0.out.next hb)
  replace Hqx0 := hide (Hqx0.out.next hb)
  replace Hqx1 := hide (Hqx1.out.next hb)
  replace Hhd0 := hide (Hhd0.out.next hb)
  replace Hhx0 := hide (Hhx0.out.next hb)
  replace Hhx1 := hide (Hhx1.out.next hb)
  replace HW := hide (below_on HW.out hb)
  have z24 := hb.size
  clear hb
  have c_qx0_0 : (u29).cell? ⟨u10.heap.size, 0, none⟩ = some (.int .i64 y0_0) := cell_of_row _ _ 0 _ _ _ Hqx0.out.here
  have c_qx0_1 : (u29).cell? ⟨u10.heap.size, 1, none⟩ = some (.int .i64 y0_1) := cell_of_row _ _ 1 _ _ _ Hqx0.out.here
  have c_qx0_2 : (u29).cell? ⟨u10.heap.size, 2, none⟩ = some (.slice q0_a0 N0_0 q0_k0) := cell_of_row _ _ 2 _ _ _ Hqx0.out.here
  have c_qx1_0 : (u29).cell? ⟨u10.heap.size + 1, 0, none⟩ = some (.int .i64 y1_0) := cell_of_row _ _ 0 _ _ _ Hqx1.out.here
  have c_qx1_1 : (u29).cell? ⟨u10.heap.size + 1, 1, none⟩ = some (.int .i64 y1_1) := cell_of_row _ _ 1 _ _ _ Hqx1.out.here
  have c_qx1_2 : (u29).cell? ⟨u10.heap.size + 1, 2, none⟩ = some (.int .i64 y1_2) := cell_of_row _ _ 2 _ _ _ Hqx1.out.here
  go_wp2_with fail
  refine (HhH0.out _ q0_a0 q0_k0 _ _ Hqd0.out.here).mono ?_
  rintro e u30 ⟨rfl, hb⟩
  clear c_qx0_0 c_qx0_1 c_qx0_2 c_qx1_0 c_qx1_1 c_qx1_2
  replace Hax0 := hide (Hax0.out.next hb)
  replace Hpd0 := hide (Hpd0.out.next hb)
  replace Hpx0 := hide (Hpx0.out.next hb)
  replace Hpx1 := hide (Hpx1.out.next hb)
  replace Hsx0 := hide (Hsx0.out.next hb)
  replace Hqd0 := hide (Hqd0.out.next hb)
  replace Hqx0 := hide (Hqx0.out.next hb)
  replace Hqx1 := hide (Hqx1.out.next hb)
  replace Hhd0 := hide (Hhd0.out.next hb)
  replace Hhx0 := hide (Hhx0.out.next hb)
  replace Hhx1 := hide (Hhx1.out.next hb)
  replace HW := hide (below_on HW.out hb)
  have z25 := hb.size
  clear hb
  go_wp2_with fail
  go_ret
  exact ⟨rfl, HW.out⟩
end Go.Proofs.Ytddkcgngpclgfab
