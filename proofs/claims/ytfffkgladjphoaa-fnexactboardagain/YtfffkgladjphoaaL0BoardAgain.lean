/-
Contracts of functions of this seat.
-/
import Derived.Test.YtfffkgladjphoaaRows
import Derived.WalkKit
import Derived.ProofKit
import Derived.OpenShut
import Derived.Test.YtfffkgladjphoaaBly
namespace Go.Proofs.Ytfffkgladjphoaa
open Go.ChangeShapes Go.WideShapes Go.ChangeAt Go.RowKit
set_option linter.unusedVariables false
set_option maxRecDepth 100000
abbrev InBoardAgain0 (w w' : World) (g h : Nat) (x0_0 : Int) (x0_1 : Int) (o0_a0 s0_a0 : Option Addr) (n0_0 o0_k0 s0_k0 : Nat) : Prop := Below w.heap.size w w' ∧ g < w'.heap.size ∧ h < w'.heap.size ∧ w'.cell? ⟨g, 0, none⟩ = some (.int .i64 x0_0) ∧ w'.cell? ⟨g, 1, none⟩ = some (.int .i64 x0_1) ∧ w'.cell? ⟨g, 2, none⟩ = some (.slice o0_a0 n0_0 o0_k0) ∧ w'.cell? ⟨h, 0, none⟩ = some (.int .i64 x0_0) ∧ w'.cell? ⟨h, 1, none⟩ = some (.int .i64 x0_1) ∧ w'.cell? ⟨h, 2, none⟩ = some (.slice s0_a0 n0_0 s0_k0)
theorem InBoardAgain0.next {w w' w2 : World} {g h : Nat} {x0_0 : Int} {x0_1 : Int} {o0_a0 s0_a0 : Option Addr} {n0_0 o0_k0 s0_k0 : Nat} (H : InBoardAgain0 w w' g h x0_0 x0_1 o0_a0 s0_a0 n0_0 o0_k0 s0_k0) (hb : Below w'.heap.size w' w2) : InBoardAgain0 w w2 g h x0_0 x0_1 o0_a0 s0_a0 n0_0 o0_k0 s0_k0 := by
  obtain ⟨h1, h2, h3, k0, k1, k2, l0, l1, l2⟩ := H
  exact ⟨below_on h1 hb, Nat.lt_of_lt_of_le h2 hb.size, Nat.lt_of_lt_of_le h3 hb.size, by rw [hb.cell (p := ⟨g, 0, none⟩) h2]; exact k0, by rw [hb.cell (p := ⟨g, 1, none⟩) h2]; exact k1, by rw [hb.cell (p := ⟨g, 2, none⟩) h2]; exact k2, by rw [hb.cell (p := ⟨h, 0, none⟩) h3]; exact l0, by rw [hb.cell (p := ⟨h, 1, none⟩) h3]; exact l1, by rw [hb.cell (p := ⟨h, 2, none⟩) h3]; exact l2⟩
theorem InBoardAgain0.start {w w' : World} {g h : Nat} {tg th : Nat} {x0_0 : Int} {x0_1 : Int} {o0_a0 s0_a0 : Option Addr} {n0_0 o0_k0 s0_k0 : Nat} (hw : Below w.heap.size w w') (hg : w'.heap[g]? = some (.cells #[.int .i64 x0_0, .int .i64 x0_1, .slice o0_a0 n0_0 o0_k0] tg)) (hh : w'.heap[h]? = some (.cells #[.int .i64 x0_0, .int .i64 x0_1, .slice s0_a0 n0_0 s0_k0] th)) : InBoardAgain0 w w' g h x0_0 x0_1 o0_a0 s0_a0 n0_0 o0_k0 s0_k0 :=
  ⟨hw, (Array.getElem?_eq_some_iff.1 hg).1, (Array.getElem?_eq_some_iff.1 hh).1, cell_of_row _ _ 0 _ _ _ hg, cell_of_row _ _ 1 _ _ _ hg, cell_of_row _ _ 2 _ _ _ hg, cell_of_row _ _ 0 _ _ _ hh, cell_of_row _ _ 1 _ _ _ hh, cell_of_row _ _ 2 _ _ _ hh⟩
set_option maxHeartbeats 8000000 in
set_option maxRecDepth 100000 in
theorem walkBoardAgain0 (w : World) (x0_0 : Int) (x0_1 : Int) (o0_a0 : Option Addr) (n0_0 o0_k0 : Nat) (ds0 : List D) (m1 : Int) (y0_0 : Int) (y0_1 : Int) (N0_0 : Nat) (rs0 ms0 : List D) (y1_0 : Int) (y1_1 : Int) (y1_2 : Int) (y1_3 : Int) (y1_4 : Bool) (y1_5 : Bool) (C2 : Int) (l0 : Int) (hl0 : 0 ≤ l0) (hZ0 : ∀ (W : World), Calls Try.prog 5 #[.agg #[.int .i64 x0_0, .int .i64 x0_1, .slice o0_a0 n0_0 o0_k0], .int .i64 1048576] W fun e w' => e = .returned (.int .i64 l0) ∧ Below W.heap.size W w') (hT0 : ∀ (W : World), Below w.heap.size w W → Calls Try.prog 7 #[.agg #[.int .i64 x0_0, .int .i64 x0_1, .slice o0_a0 n0_0 o0_k0]] W fun e w' => ∃ (c0_a0 : Option Addr) (c0_k0 : Nat) (bs : List Nat), e = .returned (.agg #[.int .i64 x0_0, .int .i64 x0_1, .slice c0_a0 n0_0 c0_k0]) ∧ HoldsL w' W.heap.size ds0 [.slice c0_a0 n0_0 c0_k0] bs ∧ bs.Nodup ∧ Below W.heap.size W w') (hS : ∀ (W : World) (c0_a0 : Option Addr) (c0_k0 : Nat) (B0 : Nat) (bs0 : List Nat), Below w.heap.size w W → HoldsL W B0 ds0 [.slice c0_a0 n0_0 c0_k0] bs0 → Calls Try.prog 12 #[.agg #[.int .i64 x0_0, .int .i64 x0_1, .slice c0_a0 n0_0 c0_k0], .int .i64 m1] W fun e w' => ∃ (d0_a0 : Option Addr) (d0_k0 : Nat) (fs0 : List Nat), e = .returned (.tuple #[.agg #[.int .i64 y0_0, .int .i64 y0_1, .slice d0_a0 N0_0 d0_k0], .agg #[.int .i64 y1_0, .int .i64 y1_1, .int .i64 y1_2, .int .i64 y1_3, .bool y1_4, .bool y1_5], .int .i64 C2]) ∧ HoldsL w' W.heap.size rs0 [.slice d0_a0 N0_0 d0_k0] fs0 ∧ (fs0).Nodup ∧ Below W.heap.size W w') (hI : ∀ (W : World) (c0_a0 : Option Addr) (c0_k0 : Nat) (B0 : Nat) (bs0 : List Nat), Below w.heap.size w W → HoldsL W B0 ds0 [.slice c0_a0 n0_0 c0_k0] bs0 → Calls Try.prog 13 #[.agg #[.int .i64 x0_0, .int .i64 x0_1, .slice c0_a0 n0_0 c0_k0], .int .i64 m1] W fun e w' => ∃ (d0_a0 : Option Addr) (d0_k0 : Nat) (fs0 : List Nat), e = .returned (.tuple #[.agg #[.int .i64 y0_0, .int .i64 y0_1, .slice d0_a0 N0_0 d0_k0], .agg #[.int .i64 y1_0, .int .i64 y1_1, .int .i64 y1_2, .int .i64 y1_3, .bool y1_4, .bool y1_5], .int .i64 C2]) ∧ HoldsL w' W.heap.size rs0 [.slice d0_a0 N0_0 d0_k0] fs0 ∧ (fs0).Nodup ∧ Below W.heap.size W w') (hE0 : ∀ (W : World) (c0_a0 : Option Addr) (c0_k0 : Nat) (e0_a0 : Option Addr) (e0_k0 : Nat) (B1 B2 : Nat) (b1 b2 : List Nat), HoldsL W B1 ds0 [.slice c0_a0 n0_0 c0_k0] b1 → HoldsL W B2 ds0 [.slice e0_a0 n0_0 e0_k0] b2 → Calls Try.prog 9 #[.agg #[.int .i64 x0_0, .int .i64 x0_1, .slice c0_a0 n0_0 c0_k0], .agg #[.int .i64 x0_0, .int .i64 x0_1, .slice e0_a0 n0_0 e0_k0]] W fun e w' => e = .returned (.bool true) ∧ Below W.heap.size W w') (hQ0 : ∀ (W : World) (c0_a0 : Option Addr) (c0_k0 : Nat) (e0_a0 : Option Addr) (e0_k0 : Nat) (B1 B2 : Nat) (b1 b2 : List Nat), HoldsL W B1 rs0 [.slice c0_a0 N0_0 c0_k0] b1 → HoldsL W B2 rs0 [.slice e0_a0 N0_0 e0_k0] b2 → Calls Try.prog 9 #[.agg #[.int .i64 y0_0, .int .i64 y0_1, .slice c0_a0 N0_0 c0_k0], .agg #[.int .i64 y0_0, .int .i64 y0_1, .slice e0_a0 N0_0 e0_k0]] W fun e w' => e = .returned (.bool true) ∧ Below W.heap.size W w') (hQ1 : ∀ (W : World), Calls Try.prog 14 #[.agg #[.int .i64 y1_0, .int .i64 y1_1, .int .i64 y1_2, .int .i64 y1_3, .bool y1_4, .bool y1_5], .agg #[.int .i64 y1_0, .int .i64 y1_1, .int .i64 y1_2, .int .i64 y1_3, .bool y1_4, .bool y1_5]] W fun e w' => e = .returned (.bool true) ∧ Below W.heap.size W w') (k0 : Int) (hk0 : 0 ≤ k0) (hM0 : ∀ (W : World) (c0_a0 : Option Addr) (c0_k0 : Nat) (B : Nat) (bs : List Nat), HoldsL W B ds0 [.slice c0_a0 n0_0 c0_k0] bs → bs.Nodup → Calls Try.prog 10 #[.agg #[.int .i64 x0_0, .int .i64 x0_1, .slice c0_a0 n0_0 c0_k0], .int .i64 1] W fun e w' => e = .returned (.int .i64 k0) ∧ Only bs W w') (q0 : Int) (hq0 : 0 ≤ q0) (hN0 : ∀ (W : World) (c0_a0 : Option Addr) (c0_k0 : Nat) (B : Nat) (bs : List Nat), HoldsL W B rs0 [.slice c0_a0 N0_0 c0_k0] bs → bs.Nodup → Calls Try.prog 10 #[.agg #[.int .i64 y0_0, .int .i64 y0_1, .slice c0_a0 N0_0 c0_k0], .int .i64 1] W fun e w' => e = .returned (.int .i64 q0) ∧ HoldsL w' B ms0 [.slice c0_a0 N0_0 c0_k0] bs ∧ Only bs W w') (hH0 : ∀ (W : World) (c0_a0 : Option Addr) (c0_k0 : Nat) (B : Nat) (bs : List Nat), HoldsL W B ms0 [.slice c0_a0 N0_0 c0_k0] bs → Calls Try.prog 11 #[.agg #[.int .i64 y0_0, .int .i64 y0_1, .slice c0_a0 N0_0 c0_k0], .int .i64 1] W fun e w' => e = .returned (.int .i64 q0) ∧ Below W.heap.size W w') :
    Calls Try.prog 4 #[.agg #[.int .i64 x0_0, .int .i64 x0_1, .slice o0_a0 n0_0 o0_k0], .int .i64 m1] w fun e w' => e = .returned (.bool true) ∧ Below w.heap.size w w' := by
  have HhT0 := hide hT0
  have HhS := hide hS
  have HhI := hide hI
  have HhE0 := hide hE0
  have HhQ0 := hide hQ0
  have HhQ1 := hide hQ1
  have HhZ0 := hide hZ0
  have HhM0 := hide hM0
  have HhN0 := hide hN0
  have HhH0 := hide hH0
  clear hT0 hS hI hE0 hQ0 hQ1 hZ0 hM0 hN0 hH0
  have HW := hide (Below.refl w.heap.size w)
  have hal := (Below.refl (w).heap.size (w)).alloc (Nat.le_refl _) (.cells #[.int .i64 x0_0, .int .i64 x0_1, .slice o0_a0 n0_0 o0_k0] 24)
  have hsz0 := World.size_alloc (w) (.cells #[.int .i64 x0_0, .int .i64 x0_1, .slice o0_a0 n0_0 o0_k0] 24)
  have Hax0 := hide (Keep.new (w) (.cells #[.int .i64 x0_0, .int .i64 x0_1, .slice o0_a0 n0_0 o0_k0] 24))
  replace HW := hide (below_on HW.out hal)
  clear hal
  have c_ax0_0 : ((w).alloc (.cells #[.int .i64 x0_0, .int .i64 x0_1, .slice o0_a0 n0_0 o0_k0] 24)).cell? ⟨w.heap.size, 0, none⟩ = some (.int .i64 x0_0) := cell_of_row _ _ 0 _ _ _ Hax0.out.here
  have c_ax0_1 : ((w).alloc (.cells #[.int .i64 x0_0, .int .i64 x0_1, .slice o0_a0 n0_0 o0_k0] 24)).cell? ⟨w.heap.size, 1, none⟩ = some (.int .i64 x0_1) := cell_of_row _ _ 1 _ _ _ Hax0.out.here
  have c_ax0_2 : ((w).alloc (.cells #[.int .i64 x0_0, .int .i64 x0_1, .slice o0_a0 n0_0 o0_k0] 24)).cell? ⟨w.heap.size, 2, none⟩ = some (.slice o0_a0 n0_0 o0_k0) := cell_of_row _ _ 2 _ _ _ Hax0.out.here
  go_enter Try.func4, Try.ntmps4
  go_wp2_with fail
  generalize (w).alloc (.cells #[.int .i64 x0_0, .int .i64 x0_1, .slice o0_a0 n0_0 o0_k0] 24) = V0 at *
  have z0 : w.heap.size ≤ V0.heap.size := HW.out.size
  refine (HhZ0.out _).mono ?_
  rintro e u1 ⟨rfl, hb⟩
  clear c_ax0_0 c_ax0_1 c_ax0_2
  replace Hax0 := hide (Hax0.out.next hb)
  replace HW := hide (below_on HW.out hb)
  have z1 := hb.size
  clear hb
  clear HhZ0
  have c_ax0_0 : (u1).cell? ⟨w.heap.size, 0, none⟩ = some (.int .i64 x0_0) := cell_of_row _ _ 0 _ _ _ Hax0.out.here
  have c_ax0_1 : (u1).cell? ⟨w.heap.size, 1, none⟩ = some (.int .i64 x0_1) := cell_of_row _ _ 1 _ _ _ Hax0.out.here
  have c_ax0_2 : (u1).cell? ⟨w.heap.size, 2, none⟩ = some (.slice o0_a0 n0_0 o0_k0) := cell_of_row _ _ 2 _ _ _ Hax0.out.here
  go_wp2_with fail
  refine (HhT0.out _ HW.out).mono ?_
  rintro e u2 ⟨r0_a0, r0_k0, rb0, rfl, ro0, rn0, hb⟩
  have Hrn0 := hide rn0
  clear rn0
  clear c_ax0_0 c_ax0_1 c_ax0_2
  replace Hax0 := hide (Hax0.out.next hb)
  replace HW := hide (below_on HW.out hb)
  have z2 := hb.size
  clear hb
  have lo_rd0 : ∀ b ∈ rb0, u1.heap.size ≤ b := fun b hb => (HoldsL.lt _ _ _ ro0 b hb).1
  have hi_rd0 : ∀ b ∈ rb0, b < u2.heap.size := fun b hb => (HoldsL.lt _ _ _ ro0 b hb).2
  have Hrd0 := hide (Keep.data ro0)
  clear ro0
  have Hlo_rd0 := hide lo_rd0
  have Hhi_rd0 := hide hi_rd0
  clear lo_rd0 hi_rd0
  go_wp2_with fail
  refine (HhS.out _ r0_a0 r0_k0 _ _ HW.out Hrd0.out.here).mono ?_
  rintro e u3 ⟨p0_a0, p0_k0, pf0, rfl, po0, pn, hb⟩
  have Hpn := hide pn
  clear pn
  replace Hax0 := hide (Hax0.out.next hb)
  replace Hrd0 := hide (Hrd0.out.next hb)
  replace HW := hide (below_on HW.out hb)
  have z3 := hb.size
  clear hb
  have lo_pd0 : ∀ b ∈ pf0, u2.heap.size ≤ b := fun b hb => (HoldsL.lt _ _ _ po0 b hb).1
  have hi_pd0 : ∀ b ∈ pf0, b < u3.heap.size := fun b hb => (HoldsL.lt _ _ _ po0 b hb).2
  have Hpd0 := hide (Keep.data po0)
  clear po0
  have Hlo_pd0 := hide lo_pd0
  have Hhi_pd0 := hide hi_pd0
  clear lo_pd0 hi_pd0
  clear Hrd0
  clear Hlo_rd0 Hhi_rd0
  have hal := (Below.refl (u3).heap.size (u3)).alloc (Nat.le_refl _) (.cells #[.int .i64 y0_0, .int .i64 y0_1, .slice p0_a0 N0_0 p0_k0] 28)
  have hsz3 := World.size_alloc (u3) (.cells #[.int .i64 y0_0, .int .i64 y0_1, .slice p0_a0 N0_0 p0_k0] 28)
  have Hpx0 := hide (Keep.new (u3) (.cells #[.int .i64 y0_0, .int .i64 y0_1, .slice p0_a0 N0_0 p0_k0] 28))
  replace Hax0 := hide (Hax0.out.next hal)
  replace Hpd0 := hide (Hpd0.out.next hal)
  replace HW := hide (below_on HW.out hal)
  clear hal
  have hal := (Below.refl ((u3).alloc (.cells #[.int .i64 y0_0, .int .i64 y0_1, .slice p0_a0 N0_0 p0_k0] 28)).heap.size ((u3).alloc (.cells #[.int .i64 y0_0, .int .i64 y0_1, .slice p0_a0 N0_0 p0_k0] 28))).alloc (Nat.le_refl _) (.cells #[.int .i64 y1_0, .int .i64 y1_1, .int .i64 y1_2, .int .i64 y1_3, .bool y1_4, .bool y1_5] 36)
  have hsz3 := World.size_alloc ((u3).alloc (.cells #[.int .i64 y0_0, .int .i64 y0_1, .slice p0_a0 N0_0 p0_k0] 28)) (.cells #[.int .i64 y1_0, .int .i64 y1_1, .int .i64 y1_2, .int .i64 y1_3, .bool y1_4, .bool y1_5] 36)
  have Hpx1 := hide (Keep.new ((u3).alloc (.cells #[.int .i64 y0_0, .int .i64 y0_1, .slice p0_a0 N0_0 p0_k0] 28)) (.cells #[.int .i64 y1_0, .int .i64 y1_1, .int .i64 y1_2, .int .i64 y1_3, .bool y1_4, .bool y1_5] 36))
  rw [show ((u3).alloc (.cells #[.int .i64 y0_0, .int .i64 y0_1, .slice p0_a0 N0_0 p0_k0] 28)).heap.size = u3.heap.size + 1 from by simp only [World.size_alloc]] at Hpx1
  replace Hax0 := hide (Hax0.out.next hal)
  replace Hpd0 := hide (Hpd0.out.next hal)
  replace Hpx0 := hide (Hpx0.out.next hal)
  replace HW := hide (below_on HW.out hal)
  clear hal
  have c_ax0_0 : (((u3).alloc (.cells #[.int .i64 y0_0, .int .i64 y0_1, .slice p0_a0 N0_0 p0_k0] 28)).alloc (.cells #[.int .i64 y1_0, .int .i64 y1_1, .int .i64 y1_2, .int .i64 y1_3, .bool y1_4, .bool y1_5] 36)).cell? ⟨w.heap.size, 0, none⟩ = some (.int .i64 x0_0) := cell_of_row _ _ 0 _ _ _ Hax0.out.here
  have c_ax0_1 : (((u3).alloc (.cells #[.int .i64 y0_0, .int .i64 y0_1, .slice p0_a0 N0_0 p0_k0] 28)).alloc (.cells #[.int .i64 y1_0, .int .i64 y1_1, .int .i64 y1_2, .int .i64 y1_3, .bool y1_4, .bool y1_5] 36)).cell? ⟨w.heap.size, 1, none⟩ = some (.int .i64 x0_1) := cell_of_row _ _ 1 _ _ _ Hax0.out.here
  have c_ax0_2 : (((u3).alloc (.cells #[.int .i64 y0_0, .int .i64 y0_1, .slice p0_a0 N0_0 p0_k0] 28)).alloc (.cells #[.int .i64 y1_0, .int .i64 y1_1, .int .i64 y1_2, .int .i64 y1_3, .bool y1_4, .bool y1_5] 36)).cell? ⟨w.heap.size, 2, none⟩ = some (.slice o0_a0 n0_0 o0_k0) := cell_of_row _ _ 2 _ _ _ Hax0.out.here
  go_wp2_with fail
  generalize ((u3).alloc (.cells #[.int .i64 y0_0, .int .i64 y0_1, .slice p0_a0 N0_0 p0_k0] 28)).alloc (.cells #[.int .i64 y1_0, .int .i64 y1_1, .int .i64 y1_2, .int .i64 y1_3, .bool y1_4, .bool y1_5] 36) = V4 at *
  have zz3 := HW.out.size
  refine (HhT0.out _ HW.out).mono ?_
  rintro e u5 ⟨s0_a0, s0_k0, sb0, rfl, so0, sn0, hb⟩
  have Hsn0 := hide sn0
  clear sn0
  clear c_ax0_0 c_ax0_1 c_ax0_2
  replace Hax0 := hide (Hax0.out.next hb)
  replace Hpd0 := hide (Hpd0.out.next hb)
  replace Hpx0 := hide (Hpx0.out.next hb)
  replace Hpx1 := hide (Hpx1.out.next hb)
  replace HW := hide (below_on HW.out hb)
  have z4 := hb.size
  clear hb
  have lo_sd0 : ∀ b ∈ sb0, V4.heap.size ≤ b := fun b hb => (HoldsL.lt _ _ _ so0 b hb).1
  have hi_sd0 : ∀ b ∈ sb0, b < u5.heap.size := fun b hb => (HoldsL.lt _ _ _ so0 b hb).2
  have Hsd0 := hide (Keep.data so0)
  clear so0
  have Hlo_sd0 := hide lo_sd0
  have Hhi_sd0 := hide hi_sd0
  clear lo_sd0 hi_sd0
  have hal := (Below.refl (u5).heap.size (u5)).alloc (Nat.le_refl _) (.cells #[.int .i64 x0_0, .int .i64 x0_1, .slice s0_a0 n0_0 s0_k0] 28)
  have hsz4 := World.size_alloc (u5) (.cells #[.int .i64 x0_0, .int .i64 x0_1, .slice s0_a0 n0_0 s0_k0] 28)
  have Hsx0 := hide (Keep.new (u5) (.cells #[.int .i64 x0_0, .int .i64 x0_1, .slice s0_a0 n0_0 s0_k0] 28))
  replace Hax0 := hide (Hax0.out.next hal)
  replace Hpd0 := hide (Hpd0.out.next hal)
  replace Hpx0 := hide (Hpx0.out.next hal)
  replace Hpx1 := hide (Hpx1.out.next hal)
  replace Hsd0 := hide (Hsd0.out.next hal)
  replace HW := hide (below_on HW.out hal)
  clear hal
  have c_ax0_0 : ((u5).alloc (.cells #[.int .i64 x0_0, .int .i64 x0_1, .slice s0_a0 n0_0 s0_k0] 28)).cell? ⟨w.heap.size, 0, none⟩ = some (.int .i64 x0_0) := cell_of_row _ _ 0 _ _ _ Hax0.out.here
  have c_ax0_1 : ((u5).alloc (.cells #[.int .i64 x0_0, .int .i64 x0_1, .slice s0_a0 n0_0 s0_k0] 28)).cell? ⟨w.heap.size, 1, none⟩ = some (.int .i64 x0_1) := cell_of_row _ _ 1 _ _ _ Hax0.out.here
  have c_ax0_2 : ((u5).alloc (.cells #[.int .i64 x0_0, .int .i64 x0_1, .slice s0_a0 n0_0 s0_k0] 28)).cell? ⟨w.heap.size, 2, none⟩ = some (.slice o0_a0 n0_0 o0_k0) := cell_of_row _ _ 2 _ _ _ Hax0.out.here
  have c_sx0_0 : ((u5).alloc (.cells #[.int .i64 x0_0, .int .i64 x0_1, .slice s0_a0 n0_0 s0_k0] 28)).cell? ⟨u5.heap.size, 0, none⟩ = some (.int .i64 x0_0) := cell_of_row _ _ 0 _ _ _ Hsx0.out.here
  have c_sx0_1 : ((u5).alloc (.cells #[.int .i64 x0_0, .int .i64 x0_1, .slice s0_a0 n0_0 s0_k0] 28)).cell? ⟨u5.heap.size, 1, none⟩ = some (.int .i64 x0_1) := cell_of_row _ _ 1 _ _ _ Hsx0.out.here
  have c_sx0_2 : ((u5).alloc (.cells #[.int .i64 x0_0, .int .i64 x0_1, .slice s0_a0 n0_0 s0_k0] 28)).cell? ⟨u5.heap.size, 2, none⟩ = some (.slice s0_a0 n0_0 s0_k0) := cell_of_row _ _ 2 _ _ _ Hsx0.out.here
  go_wp2_with fail
  generalize (u5).alloc (.cells #[.int .i64 x0_0, .int .i64 x0_1, .slice s0_a0 n0_0 s0_k0] 28) = V6 at *
  clear c_ax0_0 c_ax0_1 c_ax0_2 c_sx0_0 c_sx0_1 c_sx0_2
  refine (HhI.out _ s0_a0 s0_k0 _ _ HW.out Hsd0.out.here).mono ?_
  rintro e u7 ⟨q0_a0, q0_k0, qf0, rfl, qo0, qn, hb⟩
  have Hqn := hide qn
  clear qn
  replace Hax0 := hide (Hax0.out.next hb)
  replace Hpd0 := hide (Hpd0.out.next hb)
  replace Hpx0 := hide (Hpx0.out.next hb)
  replace Hpx1 := hide (Hpx1.out.next hb)
  replace Hsd0 := hide (Hsd0.out.next hb)
  replace Hsx0 := hide (Hsx0.out.next hb)
  replace HW := hide (below_on HW.out hb)
  have z5 := hb.size
  clear hb
  have lo_qd0 : ∀ b ∈ qf0, V6.heap.size ≤ b := fun b hb => (HoldsL.lt _ _ _ qo0 b hb).1
  have hi_qd0 : ∀ b ∈ qf0, b < u7.heap.size := fun b hb => (HoldsL.lt _ _ _ qo0 b hb).2
  have Hqd0 := hide (Keep.data qo0)
  clear qo0
  have Hlo_qd0 := hide lo_qd0
  have Hhi_qd0 := hide hi_qd0
  clear lo_qd0 hi_qd0
  have hal := (Below.refl (u7).heap.size (u7)).alloc (Nat.le_refl _) (.cells #[.int .i64 y0_0, .int .i64 y0_1, .slice q0_a0 N0_0 q0_k0] 28)
  have hsz5 := World.size_alloc (u7) (.cells #[.int .i64 y0_0, .int .i64 y0_1, .slice q0_a0 N0_0 q0_k0] 28)
  have Hqx0 := hide (Keep.new (u7) (.cells #[.int .i64 y0_0, .int .i64 y0_1, .slice q0_a0 N0_0 q0_k0] 28))
  replace Hax0 := hide (Hax0.out.next hal)
  replace Hpd0 := hide (Hpd0.out.next hal)
  replace Hpx0 := hide (Hpx0.out.next hal)
  replace Hpx1 := hide (Hpx1.out.next hal)
  replace Hsd0 := hide (Hsd0.out.next hal)
  replace Hsx0 := hide (Hsx0.out.next hal)
  replace Hqd0 := hide (Hqd0.out.next hal)
  replace HW := hide (below_on HW.out hal)
  clear hal
  have hal := (Below.refl ((u7).alloc (.cells #[.int .i64 y0_0, .int .i64 y0_1, .slice q0_a0 N0_0 q0_k0] 28)).heap.size ((u7).alloc (.cells #[.int .i64 y0_0, .int .i64 y0_1, .slice q0_a0 N0_0 q0_k0] 28))).alloc (Nat.le_refl _) (.cells #[.int .i64 y1_0, .int .i64 y1_1, .int .i64 y1_2, .int .i64 y1_3, .bool y1_4, .bool y1_5] 36)
  have hsz5 := World.size_alloc ((u7).alloc (.cells #[.int .i64 y0_0, .int .i64 y0_1, .slice q0_a0 N0_0 q0_k0] 28)) (.cells #[.int .i64 y1_0, .int .i64 y1_1, .int .i64 y1_2, .int .i64 y1_3, .bool y1_4, .bool y1_5] 36)
  have Hqx1 := hide (Keep.new ((u7).alloc (.cells #[.int .i64 y0_0, .int .i64 y0_1, .slice q0_a0 N0_0 q0_k0] 28)) (.cells #[.int .i64 y1_0, .int .i64 y1_1, .int .i64 y1_2, .int .i64 y1_3, .bool y1_4, .bool y1_5] 36))
  rw [show ((u7).alloc (.cells #[.int .i64 y0_0, .int .i64 y0_1, .slice q0_a0 N0_0 q0_k0] 28)).heap.size = u7.heap.size + 1 from by simp only [World.size_alloc]] at Hqx1
  replace Hax0 := hide (Hax0.out.next hal)
  replace Hpd0 := hide (Hpd0.out.next hal)
  replace Hpx0 := hide (Hpx0.out.next hal)
  replace Hpx1 := hide (Hpx1.out.next hal)
  replace Hsd0 := hide (Hsd0.out.next hal)
  replace Hsx0 := hide (Hsx0.out.next hal)
  replace Hqd0 := hide (Hqd0.out.next hal)
  replace Hqx0 := hide (Hqx0.out.next hal)
  replace HW := hide (below_on HW.out hal)
  clear hal
  have c_px0_0 : (((u7).alloc (.cells #[.int .i64 y0_0, .int .i64 y0_1, .slice q0_a0 N0_0 q0_k0] 28)).alloc (.cells #[.int .i64 y1_0, .int .i64 y1_1, .int .i64 y1_2, .int .i64 y1_3, .bool y1_4, .bool y1_5] 36)).cell? ⟨u3.heap.size, 0, none⟩ = some (.int .i64 y0_0) := cell_of_row _ _ 0 _ _ _ Hpx0.out.here
  have c_px0_1 : (((u7).alloc (.cells #[.int .i64 y0_0, .int .i64 y0_1, .slice q0_a0 N0_0 q0_k0] 28)).alloc (.cells #[.int .i64 y1_0, .int .i64 y1_1, .int .i64 y1_2, .int .i64 y1_3, .bool y1_4, .bool y1_5] 36)).cell? ⟨u3.heap.size, 1, none⟩ = some (.int .i64 y0_1) := cell_of_row _ _ 1 _ _ _ Hpx0.out.here
  have c_px0_2 : (((u7).alloc (.cells #[.int .i64 y0_0, .int .i64 y0_1, .slice q0_a0 N0_0 q0_k0] 28)).alloc (.cells #[.int .i64 y1_0, .int .i64 y1_1, .int .i64 y1_2, .int .i64 y1_3, .bool y1_4, .bool y1_5] 36)).cell? ⟨u3.heap.size, 2, none⟩ = some (.slice p0_a0 N0_0 p0_k0) := cell_of_row _ _ 2 _ _ _ Hpx0.out.here
  have c_px1_0 : (((u7).alloc (.cells #[.int .i64 y0_0, .int .i64 y0_1, .slice q0_a0 N0_0 q0_k0] 28)).alloc (.cells #[.int .i64 y1_0, .int .i64 y1_1, .int .i64 y1_2, .int .i64 y1_3, .bool y1_4, .bool y1_5] 36)).cell? ⟨u3.heap.size + 1, 0, none⟩ = some (.int .i64 y1_0) := cell_of_row _ _ 0 _ _ _ Hpx1.out.here
  have c_px1_1 : (((u7).alloc (.cells #[.int .i64 y0_0, .int .i64 y0_1, .slice q0_a0 N0_0 q0_k0] 28)).alloc (.cells #[.int .i64 y1_0, .int .i64 y1_1, .int .i64 y1_2, .int .i64 y1_3, .bool y1_4, .bool y1_5] 36)).cell? ⟨u3.heap.size + 1, 1, none⟩ = some (.int .i64 y1_1) := cell_of_row _ _ 1 _ _ _ Hpx1.out.here
  have c_px1_2 : (((u7).alloc (.cells #[.int .i64 y0_0, .int .i64 y0_1, .slice q0_a0 N0_0 q0_k0] 28)).alloc (.cells #[.int .i64 y1_0, .int .i64 y1_1, .int .i64 y1_2, .int .i64 y1_3, .bool y1_4, .bool y1_5] 36)).cell? ⟨u3.heap.size + 1, 2, none⟩ = some (.int .i64 y1_2) := cell_of_row _ _ 2 _ _ _ Hpx1.out.here
  have c_px1_3 : (((u7).alloc (.cells #[.int .i64 y0_0, .int .i64 y0_1, .slice q0_a0 N0_0 q0_k0] 28)).alloc (.cells #[.int .i64 y1_0, .int .i64 y1_1, .int .i64 y1_2, .int .i64 y1_3, .bool y1_4, .bool y1_5] 36)).cell? ⟨u3.heap.size + 1, 3, none⟩ = some (.int .i64 y1_3) := cell_of_row _ _ 3 _ _ _ Hpx1.out.here
  have c_px1_4 : (((u7).alloc (.cells #[.int .i64 y0_0, .int .i64 y0_1, .slice q0_a0 N0_0 q0_k0] 28)).alloc (.cells #[.int .i64 y1_0, .int .i64 y1_1, .int .i64 y1_2, .int .i64 y1_3, .bool y1_4, .bool y1_5] 36)).cell? ⟨u3.heap.size + 1, 4, none⟩ = some (.bool y1_4) := cell_of_row _ _ 4 _ _ _ Hpx1.out.here
  have c_px1_5 : (((u7).alloc (.cells #[.int .i64 y0_0, .int .i64 y0_1, .slice q0_a0 N0_0 q0_k0] 28)).alloc (.cells #[.int .i64 y1_0, .int .i64 y1_1, .int .i64 y1_2, .int .i64 y1_3, .bool y1_4, .bool y1_5] 36)).cell? ⟨u3.heap.size + 1, 5, none⟩ = some (.bool y1_5) := cell_of_row _ _ 5 _ _ _ Hpx1.out.here
  have c_qx0_0 : (((u7).alloc (.cells #[.int .i64 y0_0, .int .i64 y0_1, .slice q0_a0 N0_0 q0_k0] 28)).alloc (.cells #[.int .i64 y1_0, .int .i64 y1_1, .int .i64 y1_2, .int .i64 y1_3, .bool y1_4, .bool y1_5] 36)).cell? ⟨u7.heap.size, 0, none⟩ = some (.int .i64 y0_0) := cell_of_row _ _ 0 _ _ _ Hqx0.out.here
  have c_qx0_1 : (((u7).alloc (.cells #[.int .i64 y0_0, .int .i64 y0_1, .slice q0_a0 N0_0 q0_k0] 28)).alloc (.cells #[.int .i64 y1_0, .int .i64 y1_1, .int .i64 y1_2, .int .i64 y1_3, .bool y1_4, .bool y1_5] 36)).cell? ⟨u7.heap.size, 1, none⟩ = some (.int .i64 y0_1) := cell_of_row _ _ 1 _ _ _ Hqx0.out.here
  have c_qx0_2 : (((u7).alloc (.cells #[.int .i64 y0_0, .int .i64 y0_1, .slice q0_a0 N0_0 q0_k0] 28)).alloc (.cells #[.int .i64 y1_0, .int .i64 y1_1, .int .i64 y1_2, .int .i64 y1_3, .bool y1_4, .bool y1_5] 36)).cell? ⟨u7.heap.size, 2, none⟩ = some (.slice q0_a0 N0_0 q0_k0) := cell_of_row _ _ 2 _ _ _ Hqx0.out.here
  have c_qx1_0 : (((u7).alloc (.cells #[.int .i64 y0_0, .int .i64 y0_1, .slice q0_a0 N0_0 q0_k0] 28)).alloc (.cells #[.int .i64 y1_0, .int .i64 y1_1, .int .i64 y1_2, .int .i64 y1_3, .bool y1_4, .bool y1_5] 36)).cell? ⟨u7.heap.size + 1, 0, none⟩ = some (.int .i64 y1_0) := cell_of_row _ _ 0 _ _ _ Hqx1.out.here
  have c_qx1_1 : (((u7).alloc (.cells #[.int .i64 y0_0, .int .i64 y0_1, .slice q0_a0 N0_0 q0_k0] 28)).alloc (.cells #[.int .i64 y1_0, .int .i64 y1_1, .int .i64 y1_2, .int .i64 y1_3, .bool y1_4, .bool y1_5] 36)).cell? ⟨u7.heap.size + 1, 1, none⟩ = some (.int .i64 y1_1) := cell_of_row _ _ 1 _ _ _ Hqx1.out.here
  have c_qx1_2 : (((u7).alloc (.cells #[.int .i64 y0_0, .int .i64 y0_1, .slice q0_a0 N0_0 q0_k0] 28)).alloc (.cells #[.int .i64 y1_0, .int .i64 y1_1, .int .i64 y1_2, .int .i64 y1_3, .bool y1_4, .bool y1_5] 36)).cell? ⟨u7.heap.size + 1, 2, none⟩ = some (.int .i64 y1_2) := cell_of_row _ _ 2 _ _ _ Hqx1.out.here
  have c_qx1_3 : (((u7).alloc (.cells #[.int .i64 y0_0, .int .i64 y0_1, .slice q0_a0 N0_0 q0_k0] 28)).alloc (.cells #[.int .i64 y1_0, .int .i64 y1_1, .int .i64 y1_2, .int .i64 y1_3, .bool y1_4, .bool y1_5] 36)).cell? ⟨u7.heap.size + 1, 3, none⟩ = some (.int .i64 y1_3) := cell_of_row _ _ 3 _ _ _ Hqx1.out.here
  have c_qx1_4 : (((u7).alloc (.cells #[.int .i64 y0_0, .int .i64 y0_1, .slice q0_a0 N0_0 q0_k0] 28)).alloc (.cells #[.int .i64 y1_0, .int .i64 y1_1, .int .i64 y1_2, .int .i64 y1_3, .bool y1_4, .bool y1_5] 36)).cell? ⟨u7.heap.size + 1, 4, none⟩ = some (.bool y1_4) := cell_of_row _ _ 4 _ _ _ Hqx1.out.here
  have c_qx1_5 : (((u7).alloc (.cells #[.int .i64 y0_0, .int .i64 y0_1, .slice q0_a0 N0_0 q0_k0] 28)).alloc (.cells #[.int .i64 y1_0, .int .i64 y1_1, .int .i64 y1_2, .int .i64 y1_3, .bool y1_4, .bool y1_5] 36)).cell? ⟨u7.heap.size + 1, 5, none⟩ = some (.bool y1_5) := cell_of_row _ _ 5 _ _ _ Hqx1.out.here
  go_wp2_with fail
  generalize ((u7).alloc (.cells #[.int .i64 y0_0, .int .i64 y0_1, .slice q0_a0 N0_0 q0_k0] 28)).alloc (.cells #[.int .i64 y1_0, .int .i64 y1_1, .int .i64 y1_2, .int .i64 y1_3, .bool y1_4, .bool y1_5] 36) = V8 at *
  clear c_px0_0 c_px0_1 c_px0_2 c_px1_0 c_px1_1 c_px1_2 c_px1_3 c_px1_4 c_px1_5 c_qx0_0 c_qx0_1 c_qx0_2 c_qx1_0 c_qx1_1 c_qx1_2 c_qx1_3 c_qx1_4 c_qx1_5
  refine (HhQ0.out _ q0_a0 q0_k0 p0_a0 p0_k0 _ _ _ _ Hqd0.out.here Hpd0.out.here).mono ?_
  rintro e u9 ⟨rfl, hb⟩
  replace Hax0 := hide (Hax0.out.next hb)
  replace Hpd0 := hide (Hpd0.out.next hb)
  replace Hpx0 := hide (Hpx0.out.next hb)
  replace Hpx1 := hide (Hpx1.out.next hb)
  replace Hsd0 := hide (Hsd0.out.next hb)
  replace Hsx0 := hide (Hsx0.out.next hb)
  replace Hqd0 := hide (Hqd0.out.next hb)
  replace Hqx0 := hide (Hqx0.out.next hb)
  replace Hqx1 := hide (Hqx1.out.next hb)
  replace HW := hide (below_on HW.out hb)
  have z6 := hb.size
  clear hb
  have c_px0_0 : (u9).cell? ⟨u3.heap.size, 0, none⟩ = some (.int .i64 y0_0) := cell_of_row _ _ 0 _ _ _ Hpx0.out.here
  have c_px0_1 : (u9).cell? ⟨u3.heap.size, 1, none⟩ = some (.int .i64 y0_1) := cell_of_row _ _ 1 _ _ _ Hpx0.out.here
  have c_px0_2 : (u9).cell? ⟨u3.heap.size, 2, none⟩ = some (.slice p0_a0 N0_0 p0_k0) := cell_of_row _ _ 2 _ _ _ Hpx0.out.here
  have c_px1_0 : (u9).cell? ⟨u3.heap.size + 1, 0, none⟩ = some (.int .i64 y1_0) := cell_of_row _ _ 0 _ _ _ Hpx1.out.here
  have c_px1_1 : (u9).cell? ⟨u3.heap.size + 1, 1, none⟩ = some (.int .i64 y1_1) := cell_of_row _ _ 1 _ _ _ Hpx1.out.here
  have c_px1_2 : (u9).cell? ⟨u3.heap.size + 1, 2, none⟩ = some (.int .i64 y1_2) := cell_of_row _ _ 2 _ _ _ Hpx1.out.here
  have c_px1_3 : (u9).cell? ⟨u3.heap.size + 1, 3, none⟩ = some (.int .i64 y1_3) := cell_of_row _ _ 3 _ _ _ Hpx1.out.here
  have c_px1_4 : (u9).cell? ⟨u3.heap.size + 1, 4, none⟩ = some (.bool y1_4) := cell_of_row _ _ 4 _ _ _ Hpx1.out.here
  have c_px1_5 : (u9).cell? ⟨u3.heap.size + 1, 5, none⟩ = some (.bool y1_5) := cell_of_row _ _ 5 _ _ _ Hpx1.out.here
  have c_qx0_0 : (u9).cell? ⟨u7.heap.size, 0, none⟩ = some (.int .i64 y0_0) := cell_of_row _ _ 0 _ _ _ Hqx0.out.here
  have c_qx0_1 : (u9).cell? ⟨u7.heap.size, 1, none⟩ = some (.int .i64 y0_1) := cell_of_row _ _ 1 _ _ _ Hqx0.out.here
  have c_qx0_2 : (u9).cell? ⟨u7.heap.size, 2, none⟩ = some (.slice q0_a0 N0_0 q0_k0) := cell_of_row _ _ 2 _ _ _ Hqx0.out.here
  have c_qx1_0 : (u9).cell? ⟨u7.heap.size + 1, 0, none⟩ = some (.int .i64 y1_0) := cell_of_row _ _ 0 _ _ _ Hqx1.out.here
  have c_qx1_1 : (u9).cell? ⟨u7.heap.size + 1, 1, none⟩ = some (.int .i64 y1_1) := cell_of_row _ _ 1 _ _ _ Hqx1.out.here
  have c_qx1_2 : (u9).cell? ⟨u7.heap.size + 1, 2, none⟩ = some (.int .i64 y1_2) := cell_of_row _ _ 2 _ _ _ Hqx1.out.here
  have c_qx1_3 : (u9).cell? ⟨u7.heap.size + 1, 3, none⟩ = some (.int .i64 y1_3) := cell_of_row _ _ 3 _ _ _ Hqx1.out.here
  have c_qx1_4 : (u9).cell? ⟨u7.heap.size + 1, 4, none⟩ = some (.bool y1_4) := cell_of_row _ _ 4 _ _ _ Hqx1.out.here
  have c_qx1_5 : (u9).cell? ⟨u7.heap.size + 1, 5, none⟩ = some (.bool y1_5) := cell_of_row _ _ 5 _ _ _ Hqx1.out.here
  go_wp2_with fail
  refine (HhQ1.out _).mono ?_
  rintro e u10 ⟨rfl, hb⟩
  clear c_px0_0 c_px0_1 c_px0_2 c_px1_0 c_px1_1 c_px1_2 c_px1_3 c_px1_4 c_px1_5 c_qx0_0 c_qx0_1 c_qx0_2 c_qx1_0 c_qx1_1 c_qx1_2 c_qx1_3 c_qx1_4 c_qx1_5
  replace Hax0 := hide (Hax0.out.next hb)
  replace Hpd0 := hide (Hpd0.out.next hb)
  replace Hpx0 := hide (Hpx0.out.next hb)
  replace Hpx1 := hide (Hpx1.out.next hb)
  replace Hsd0 := hide (Hsd0.out.next hb)
  replace Hsx0 := hide (Hsx0.out.next hb)
  replace Hqd0 := hide (Hqd0.out.next hb)
  replace Hqx0 := hide (Hqx0.out.next hb)
  replace Hqx1 := hide (Hqx1.out.next hb)
  replace HW := hide (below_on HW.out hb)
  have z7 := hb.size
  clear hb
  go_wp2_with fail
  have HI := hide (InBoardAgain0.start HW.out Hax0.out.here Hsx0.out.here)
  go_region_held3 (fun w' => InBoardAgain0 w w' w.heap.size u5.heap.size x0_0 x0_1 o0_a0 s0_a0 n0_0 o0_k0 s0_k0) (with_reducible first | assumption | exact HI.out.next ((Below.refl _ _).drew) | exact InBoardAgain0.next (by assumption) hb7 | exact InBoardAgain0.next (by assumption) hb8)
    (first
      | (go_at_call 7; refine (HhT0.out _ (by assumption : InBoardAgain0 w _ _ _ x0_0 x0_1 o0_a0 s0_a0 n0_0 o0_k0 s0_k0).1).mono ?_; rintro e w7 ⟨t0_a0, t0_k0, tb0, rfl, to0, tn0, hb7⟩; have hsx := (Hsd0.out.next ((Below.refl _ _).drew)).next hb7)
      | (go_at_call 9; refine (HhE0.out _ s0_a0 s0_k0 t0_a0 t0_k0 _ _ _ _ hsx.here to0).mono ?_; rintro e w8 ⟨rfl, hb8⟩))
  have hb : Below u10.heap.size u10 w8 := (below_drew hb7).trans (hb8.mono hb7.size)
  clear hb7 hb8 hsx to0 tn0 HI
  replace Hax0 := hide (Hax0.out.next hb)
  replace Hpd0 := hide (Hpd0.out.next hb)
  replace Hpx0 := hide (Hpx0.out.next hb)
  replace Hpx1 := hide (Hpx1.out.next hb)
  replace Hsd0 := hide (Hsd0.out.next hb)
  replace Hsx0 := hide (Hsx0.out.next hb)
  replace Hqd0 := hide (Hqd0.out.next hb)
  replace Hqx0 := hide (Hqx0.out.next hb)
  replace Hqx1 := hide (Hqx1.out.next hb)
  replace HW := hide (below_on HW.out hb)
  have z8 := hb.size
  clear hb
  generalize w8 = u12 at *
  have c_sx0_0 : (u12).cell? ⟨u5.heap.size, 0, none⟩ = some (.int .i64 x0_0) := cell_of_row _ _ 0 _ _ _ Hsx0.out.here
  have c_sx0_1 : (u12).cell? ⟨u5.heap.size, 1, none⟩ = some (.int .i64 x0_1) := cell_of_row _ _ 1 _ _ _ Hsx0.out.here
  have c_sx0_2 : (u12).cell? ⟨u5.heap.size, 2, none⟩ = some (.slice s0_a0 n0_0 s0_k0) := cell_of_row _ _ 2 _ _ _ Hsx0.out.here
  go_wp2_with fail
  refine (HhM0.out _ s0_a0 s0_k0 _ _ Hsd0.out.here Hsn0.out).mono ?_
  rintro e u13 ⟨rfl, hon⟩
  clear c_sx0_0 c_sx0_1 c_sx0_2
  replace Hax0 := hide (Hax0.out.only hon (fun b hb hm => by have h1 := List.mem_singleton.1 hb; have h3 := Hlo_sd0.out b hm; have h4 := Hhi_sd0.out b hm; omega))
  replace Hpd0 := hide (Hpd0.out.only hon (fun b hb hm => by have h1 := Hlo_pd0.out b hb; have h2 := Hhi_pd0.out b hb; have h3 := Hlo_sd0.out b hm; have h4 := Hhi_sd0.out b hm; omega))
  replace Hpx0 := hide (Hpx0.out.only hon (fun b hb hm => by have h1 := List.mem_singleton.1 hb; have h3 := Hlo_sd0.out b hm; have h4 := Hhi_sd0.out b hm; omega))
  replace Hpx1 := hide (Hpx1.out.only hon (fun b hb hm => by have h1 := List.mem_singleton.1 hb; have h3 := Hlo_sd0.out b hm; have h4 := Hhi_sd0.out b hm; omega))
  replace Hsx0 := hide (Hsx0.out.only hon (fun b hb hm => by have h1 := List.mem_singleton.1 hb; have h3 := Hlo_sd0.out b hm; have h4 := Hhi_sd0.out b hm; omega))
  replace Hqd0 := hide (Hqd0.out.only hon (fun b hb hm => by have h1 := Hlo_qd0.out b hb; have h2 := Hhi_qd0.out b hb; have h3 := Hlo_sd0.out b hm; have h4 := Hhi_sd0.out b hm; omega))
  replace Hqx0 := hide (Hqx0.out.only hon (fun b hb hm => by have h1 := List.mem_singleton.1 hb; have h3 := Hlo_sd0.out b hm; have h4 := Hhi_sd0.out b hm; omega))
  replace Hqx1 := hide (Hqx1.out.only hon (fun b hb hm => by have h1 := List.mem_singleton.1 hb; have h3 := Hlo_sd0.out b hm; have h4 := Hhi_sd0.out b hm; omega))
  replace HW := hide (below_only HW.out hon (fun b hb => by have h1 := Hlo_sd0.out b hb; omega))
  have z9 := hon.size
  clear hon
  clear Hsd0
  clear Hlo_sd0 Hhi_sd0
  have c_px0_0 : (u13).cell? ⟨u3.heap.size, 0, none⟩ = some (.int .i64 y0_0) := cell_of_row _ _ 0 _ _ _ Hpx0.out.here
  have c_px0_1 : (u13).cell? ⟨u3.heap.size, 1, none⟩ = some (.int .i64 y0_1) := cell_of_row _ _ 1 _ _ _ Hpx0.out.here
  have c_px0_2 : (u13).cell? ⟨u3.heap.size, 2, none⟩ = some (.slice p0_a0 N0_0 p0_k0) := cell_of_row _ _ 2 _ _ _ Hpx0.out.here
  have c_px1_0 : (u13).cell? ⟨u3.heap.size + 1, 0, none⟩ = some (.int .i64 y1_0) := cell_of_row _ _ 0 _ _ _ Hpx1.out.here
  have c_px1_1 : (u13).cell? ⟨u3.heap.size + 1, 1, none⟩ = some (.int .i64 y1_1) := cell_of_row _ _ 1 _ _ _ Hpx1.out.here
  have c_px1_2 : (u13).cell? ⟨u3.heap.size + 1, 2, none⟩ = some (.int .i64 y1_2) := cell_of_row _ _ 2 _ _ _ Hpx1.out.here
  have c_px1_3 : (u13).cell? ⟨u3.heap.size + 1, 3, none⟩ = some (.int .i64 y1_3) := cell_of_row _ _ 3 _ _ _ Hpx1.out.here
  have c_px1_4 : (u13).cell? ⟨u3.heap.size + 1, 4, none⟩ = some (.bool y1_4) := cell_of_row _ _ 4 _ _ _ Hpx1.out.here
  have c_px1_5 : (u13).cell? ⟨u3.heap.size + 1, 5, none⟩ = some (.bool y1_5) := cell_of_row _ _ 5 _ _ _ Hpx1.out.here
  have c_qx0_0 : (u13).cell? ⟨u7.heap.size, 0, none⟩ = some (.int .i64 y0_0) := cell_of_row _ _ 0 _ _ _ Hqx0.out.here
  have c_qx0_1 : (u13).cell? ⟨u7.heap.size, 1, none⟩ = some (.int .i64 y0_1) := cell_of_row _ _ 1 _ _ _ Hqx0.out.here
  have c_qx0_2 : (u13).cell? ⟨u7.heap.size, 2, none⟩ = some (.slice q0_a0 N0_0 q0_k0) := cell_of_row _ _ 2 _ _ _ Hqx0.out.here
  have c_qx1_0 : (u13).cell? ⟨u7.heap.size + 1, 0, none⟩ = some (.int .i64 y1_0) := cell_of_row _ _ 0 _ _ _ Hqx1.out.here
  have c_qx1_1 : (u13).cell? ⟨u7.heap.size + 1, 1, none⟩ = some (.int .i64 y1_1) := cell_of_row _ _ 1 _ _ _ Hqx1.out.here
  have c_qx1_2 : (u13).cell? ⟨u7.heap.size + 1, 2, none⟩ = some (.int .i64 y1_2) := cell_of_row _ _ 2 _ _ _ Hqx1.out.here
  have c_qx1_3 : (u13).cell? ⟨u7.heap.size + 1, 3, none⟩ = some (.int .i64 y1_3) := cell_of_row _ _ 3 _ _ _ Hqx1.out.here
  have c_qx1_4 : (u13).cell? ⟨u7.heap.size + 1, 4, none⟩ = some (.bool y1_4) := cell_of_row _ _ 4 _ _ _ Hqx1.out.here
  have c_qx1_5 : (u13).cell? ⟨u7.heap.size + 1, 5, none⟩ = some (.bool y1_5) := cell_of_row _ _ 5 _ _ _ Hqx1.out.here
  go_wp2_with fail
  clear c_px0_0 c_px0_1 c_px0_2 c_px1_0 c_px1_1 c_px1_2 c_px1_3 c_px1_4 c_px1_5 c_qx0_0 c_qx0_1 c_qx0_2 c_qx1_0 c_qx1_1 c_qx1_2 c_qx1_3 c_qx1_4 c_qx1_5
  refine (HhQ0.out _ q0_a0 q0_k0 p0_a0 p0_k0 _ _ _ _ Hqd0.out.here Hpd0.out.here).mono ?_
  rintro e u14 ⟨rfl, hb⟩
  replace Hax0 := hide (Hax0.out.next hb)
  replace Hpd0 := hide (Hpd0.out.next hb)
  replace Hpx0 := hide (Hpx0.out.next hb)
  replace Hpx1 := hide (Hpx1.out.next hb)
  replace Hsx0 := hide (Hsx0.out.next hb)
  replace Hqd0 := hide (Hqd0.out.next hb)
  replace Hqx0 := hide (Hqx0.out.next hb)
  replace Hqx1 := hide (Hqx1.out.next hb)
  replace HW := hide (below_on HW.out hb)
  have z10 := hb.size
  clear hb
  have c_px0_0 : (u14).cell? ⟨u3.heap.size, 0, none⟩ = some (.int .i64 y0_0) := cell_of_row _ _ 0 _ _ _ Hpx0.out.here
  have c_px0_1 : (u14).cell? ⟨u3.heap.size, 1, none⟩ = some (.int .i64 y0_1) := cell_of_row _ _ 1 _ _ _ Hpx0.out.here
  have c_px0_2 : (u14).cell? ⟨u3.heap.size, 2, none⟩ = some (.slice p0_a0 N0_0 p0_k0) := cell_of_row _ _ 2 _ _ _ Hpx0.out.here
  have c_px1_0 : (u14).cell? ⟨u3.heap.size + 1, 0, none⟩ = some (.int .i64 y1_0) := cell_of_row _ _ 0 _ _ _ Hpx1.out.here
  have c_px1_1 : (u14).cell? ⟨u3.heap.size + 1, 1, none⟩ = some (.int .i64 y1_1) := cell_of_row _ _ 1 _ _ _ Hpx1.out.here
  have c_px1_2 : (u14).cell? ⟨u3.heap.size + 1, 2, none⟩ = some (.int .i64 y1_2) := cell_of_row _ _ 2 _ _ _ Hpx1.out.here
  have c_px1_3 : (u14).cell? ⟨u3.heap.size + 1, 3, none⟩ = some (.int .i64 y1_3) := cell_of_row _ _ 3 _ _ _ Hpx1.out.here
  have c_px1_4 : (u14).cell? ⟨u3.heap.size + 1, 4, none⟩ = some (.bool y1_4) := cell_of_row _ _ 4 _ _ _ Hpx1.out.here
  have c_px1_5 : (u14).cell? ⟨u3.heap.size + 1, 5, none⟩ = some (.bool y1_5) := cell_of_row _ _ 5 _ _ _ Hpx1.out.here
  have c_qx0_0 : (u14).cell? ⟨u7.heap.size, 0, none⟩ = some (.int .i64 y0_0) := cell_of_row _ _ 0 _ _ _ Hqx0.out.here
  have c_qx0_1 : (u14).cell? ⟨u7.heap.size, 1, none⟩ = some (.int .i64 y0_1) := cell_of_row _ _ 1 _ _ _ Hqx0.out.here
  have c_qx0_2 : (u14).cell? ⟨u7.heap.size, 2, none⟩ = some (.slice q0_a0 N0_0 q0_k0) := cell_of_row _ _ 2 _ _ _ Hqx0.out.here
  have c_qx1_0 : (u14).cell? ⟨u7.heap.size + 1, 0, none⟩ = some (.int .i64 y1_0) := cell_of_row _ _ 0 _ _ _ Hqx1.out.here
  have c_qx1_1 : (u14).cell? ⟨u7.heap.size + 1, 1, none⟩ = some (.int .i64 y1_1) := cell_of_row _ _ 1 _ _ _ Hqx1.out.here
  have c_qx1_2 : (u14).cell? ⟨u7.heap.size + 1, 2, none⟩ = some (.int .i64 y1_2) := cell_of_row _ _ 2 _ _ _ Hqx1.out.here
  have c_qx1_3 : (u14).cell? ⟨u7.heap.size + 1, 3, none⟩ = some (.int .i64 y1_3) := cell_of_row _ _ 3 _ _ _ Hqx1.out.here
  have c_qx1_4 : (u14).cell? ⟨u7.heap.size + 1, 4, none⟩ = some (.bool y1_4) := cell_of_row _ _ 4 _ _ _ Hqx1.out.here
  have c_qx1_5 : (u14).cell? ⟨u7.heap.size + 1, 5, none⟩ = some (.bool y1_5) := cell_of_row _ _ 5 _ _ _ Hqx1.out.here
  go_wp2_with fail
  refine (HhQ1.out _).mono ?_
  rintro e u15 ⟨rfl, hb⟩
  clear c_px0_0 c_px0_1 c_px0_2 c_px1_0 c_px1_1 c_px1_2 c_px1_3 c_px1_4 c_px1_5 c_qx0_0 c_qx0_1 c_qx0_2 c_qx1_0 c_qx1_1 c_qx1_2 c_qx1_3 c_qx1_4 c_qx1_5
  replace Hax0 := hide (Hax0.out.next hb)
  replace Hpd0 := hide (Hpd0.out.next hb)
  replace Hpx0 := hide (Hpx0.out.next hb)
  replace Hpx1 := hide (Hpx1.out.next hb)
  replace Hsx0 := hide (Hsx0.out.next hb)
  replace Hqd0 := hide (Hqd0.out.next hb)
  replace Hqx0 := hide (Hqx0.out.next hb)
  replace Hqx1 := hide (Hqx1.out.next hb)
  replace HW := hide (below_on HW.out hb)
  have z11 := hb.size
  clear hb
  have c_qx0_0 : (u15).cell? ⟨u7.heap.size, 0, none⟩ = some (.int .i64 y0_0) := cell_of_row _ _ 0 _ _ _ Hqx0.out.here
  have c_qx0_1 : (u15).cell? ⟨u7.heap.size, 1, none⟩ = some (.int .i64 y0_1) := cell_of_row _ _ 1 _ _ _ Hqx0.out.here
  have c_qx0_2 : (u15).cell? ⟨u7.heap.size, 2, none⟩ = some (.slice q0_a0 N0_0 q0_k0) := cell_of_row _ _ 2 _ _ _ Hqx0.out.here
  have c_qx1_0 : (u15).cell? ⟨u7.heap.size + 1, 0, none⟩ = some (.int .i64 y1_0) := cell_of_row _ _ 0 _ _ _ Hqx1.out.here
  have c_qx1_1 : (u15).cell? ⟨u7.heap.size + 1, 1, none⟩ = some (.int .i64 y1_1) := cell_of_row _ _ 1 _ _ _ Hqx1.out.here
  have c_qx1_2 : (u15).cell? ⟨u7.heap.size + 1, 2, none⟩ = some (.int .i64 y1_2) := cell_of_row _ _ 2 _ _ _ Hqx1.out.here
  have c_qx1_3 : (u15).cell? ⟨u7.heap.size + 1, 3, none⟩ = some (.int .i64 y1_3) := cell_of_row _ _ 3 _ _ _ Hqx1.out.here
  have c_qx1_4 : (u15).cell? ⟨u7.heap.size + 1, 4, none⟩ = some (.bool y1_4) := cell_of_row _ _ 4 _ _ _ Hqx1.out.here
  have c_qx1_5 : (u15).cell? ⟨u7.heap.size + 1, 5, none⟩ = some (.bool y1_5) := cell_of_row _ _ 5 _ _ _ Hqx1.out.here
  go_wp2_with fail
  refine (HhN0.out _ q0_a0 q0_k0 _ _ Hqd0.out.here Hqn.out).mono ?_
  rintro e u16 ⟨rfl, hmk, hon⟩
  clear c_qx0_0 c_qx0_1 c_qx0_2 c_qx1_0 c_qx1_1 c_qx1_2 c_qx1_3 c_qx1_4 c_qx1_5
  replace Hax0 := hide (Hax0.out.only hon (fun b hb hm => by have h1 := List.mem_singleton.1 hb; have h3 := Hlo_qd0.out b hm; have h4 := Hhi_qd0.out b hm; omega))
  replace Hpd0 := hide (Hpd0.out.only hon (fun b hb hm => by have h1 := Hlo_pd0.out b hb; have h2 := Hhi_pd0.out b hb; have h3 := Hlo_qd0.out b hm; have h4 := Hhi_qd0.out b hm; omega))
  replace Hpx0 := hide (Hpx0.out.only hon (fun b hb hm => by have h1 := List.mem_singleton.1 hb; have h3 := Hlo_qd0.out b hm; have h4 := Hhi_qd0.out b hm; omega))
  replace Hpx1 := hide (Hpx1.out.only hon (fun b hb hm => by have h1 := List.mem_singleton.1 hb; have h3 := Hlo_qd0.out b hm; have h4 := Hhi_qd0.out b hm; omega))
  replace Hsx0 := hide (Hsx0.out.only hon (fun b hb hm => by have h1 := List.mem_singleton.1 hb; have h3 := Hlo_qd0.out b hm; have h4 := Hhi_qd0.out b hm; omega))
  replace Hqx0 := hide (Hqx0.out.only hon (fun b hb hm => by have h1 := List.mem_singleton.1 hb; have h3 := Hlo_qd0.out b hm; have h4 := Hhi_qd0.out b hm; omega))
  replace Hqx1 := hide (Hqx1.out.only hon (fun b hb hm => by have h1 := List.mem_singleton.1 hb; have h3 := Hlo_qd0.out b hm; have h4 := Hhi_qd0.out b hm; omega))
  replace HW := hide (below_only HW.out hon (fun b hb => by have h1 := Hlo_qd0.out b hb; omega))
  replace Hqd0 := hide (Keep.data hmk)
  have z12 := hon.size
  clear hon hmk
  have c_qx0_0 : (u16).cell? ⟨u7.heap.size, 0, none⟩ = some (.int .i64 y0_0) := cell_of_row _ _ 0 _ _ _ Hqx0.out.here
  have c_qx0_1 : (u16).cell? ⟨u7.heap.size, 1, none⟩ = some (.int .i64 y0_1) := cell_of_row _ _ 1 _ _ _ Hqx0.out.here
  have c_qx0_2 : (u16).cell? ⟨u7.heap.size, 2, none⟩ = some (.slice q0_a0 N0_0 q0_k0) := cell_of_row _ _ 2 _ _ _ Hqx0.out.here
  have c_qx1_0 : (u16).cell? ⟨u7.heap.size + 1, 0, none⟩ = some (.int .i64 y1_0) := cell_of_row _ _ 0 _ _ _ Hqx1.out.here
  have c_qx1_1 : (u16).cell? ⟨u7.heap.size + 1, 1, none⟩ = some (.int .i64 y1_1) := cell_of_row _ _ 1 _ _ _ Hqx1.out.here
  have c_qx1_2 : (u16).cell? ⟨u7.heap.size + 1, 2, none⟩ = some (.int .i64 y1_2) := cell_of_row _ _ 2 _ _ _ Hqx1.out.here
  have c_qx1_3 : (u16).cell? ⟨u7.heap.size + 1, 3, none⟩ = some (.int .i64 y1_3) := cell_of_row _ _ 3 _ _ _ Hqx1.out.here
  have c_qx1_4 : (u16).cell? ⟨u7.heap.size + 1, 4, none⟩ = some (.bool y1_4) := cell_of_row _ _ 4 _ _ _ Hqx1.out.here
  have c_qx1_5 : (u16).cell? ⟨u7.heap.size + 1, 5, none⟩ = some (.bool y1_5) := cell_of_row _ _ 5 _ _ _ Hqx1.out.here
  go_wp2_with fail
  refine (HhH0.out _ q0_a0 q0_k0 _ _ Hqd0.out.here).mono ?_
  rintro e u17 ⟨rfl, hb⟩
  clear c_qx0_0 c_qx0_1 c_qx0_2 c_qx1_0 c_qx1_1 c_qx1_2 c_qx1_3 c_qx1_4 c_qx1_5
  replace Hax0 := hide (Hax0.out.next hb)
  replace Hpd0 := hide (Hpd0.out.next hb)
  replace Hpx0 := hide (Hpx0.out.next hb)
  replace Hpx1 := hide (Hpx1.out.next hb)
  replace Hsx0 := hide (Hsx0.out.next hb)
  replace Hqd0 := hide (Hqd0.out.next hb)
  replace Hqx0 := hide (Hqx0.out.next hb)
  replace Hqx1 := hide (Hqx1.out.next hb)
  replace HW := hide (below_on HW.out hb)
  have z13 := hb.size
  clear hb
  have c_ax0_0 : (u17).cell? ⟨w.heap.size, 0, none⟩ = some (.int .i64 x0_0) := cell_of_row _ _ 0 _ _ _ Hax0.out.here
  have c_ax0_1 : (u17).cell? ⟨w.heap.size, 1, none⟩ = some (.int .i64 x0_1) := cell_of_row _ _ 1 _ _ _ Hax0.out.here
  have c_ax0_2 : (u17).cell? ⟨w.heap.size, 2, none⟩ = some (.slice o0_a0 n0_0 o0_k0) := cell_of_row _ _ 2 _ _ _ Hax0.out.here
  go_wp2_with fail
  refine (HhT0.out _ HW.out).mono ?_
  rintro e u18 ⟨t0_a0, t0_k0, tb0, rfl, to0, tn0, hb⟩
  have Htn0 := hide tn0
  clear tn0
  clear c_ax0_0 c_ax0_1 c_ax0_2
  replace Hax0 := hide (Hax0.out.next hb)
  replace Hpd0 := hide (Hpd0.out.next hb)
  replace Hpx0 := hide (Hpx0.out.next hb)
  replace Hpx1 := hide (Hpx1.out.next hb)
  replace Hsx0 := hide (Hsx0.out.next hb)
  replace Hqd0 := hide (Hqd0.out.next hb)
  replace Hqx0 := hide (Hqx0.out.next hb)
  replace Hqx1 := hide (Hqx1.out.next hb)
  replace HW := hide (below_on HW.out hb)
  have z14 := hb.size
  clear hb
  have lo_td0 : ∀ b ∈ tb0, u17.heap.size ≤ b := fun b hb => (HoldsL.lt _ _ _ to0 b hb).1
  have hi_td0 : ∀ b ∈ tb0, b < u18.heap.size := fun b hb => (HoldsL.lt _ _ _ to0 b hb).2
  have Htd0 := hide (Keep.data to0)
  clear to0
  have Hlo_td0 := hide lo_td0
  have Hhi_td0 := hide hi_td0
  clear lo_td0 hi_td0
  go_wp2_with fail
  refine (HhI.out _ t0_a0 t0_k0 _ _ HW.out Htd0.out.here).mono ?_
  rintro e u19 ⟨h0_a0, h0_k0, hf0, rfl, ho0, hn, hb⟩
  have Hhn := hide hn
  clear hn
  replace Hax0 := hide (Hax0.out.next hb)
  replace Hpd0 := hide (Hpd0.out.next hb)
  replace Hpx0 := hide (Hpx0.out.next hb)
  replace Hpx1 := hide (Hpx1.out.next hb)
  replace Hsx0 := hide (Hsx0.out.next hb)
  replace Hqd0 := hide (Hqd0.out.next hb)
  replace Hqx0 := hide (Hqx0.out.next hb)
  replace Hqx1 := hide (Hqx1.out.next hb)
  replace Htd0 := hide (Htd0.out.next hb)
  replace HW := hide (below_on HW.out hb)
  have z15 := hb.size
  clear hb
  have lo_hd0 : ∀ b ∈ hf0, u18.heap.size ≤ b := fun b hb => (HoldsL.lt _ _ _ ho0 b hb).1
  have hi_hd0 : ∀ b ∈ hf0, b < u19.heap.size := fun b hb => (HoldsL.lt _ _ _ ho0 b hb).2
  have Hhd0 := hide (Keep.data ho0)
  clear ho0
  have Hlo_hd0 := hide lo_hd0
  have Hhi_hd0 := hide hi_hd0
  clear lo_hd0 hi_hd0
  clear Htd0
  clear Hlo_td0 Hhi_td0
  have hal := (Below.refl (u19).heap.size (u19)).alloc (Nat.le_refl _) (.cells #[.int .i64 y0_0, .int .i64 y0_1, .slice h0_a0 N0_0 h0_k0] 28)
  have hsz15 := World.size_alloc (u19) (.cells #[.int .i64 y0_0, .int .i64 y0_1, .slice h0_a0 N0_0 h0_k0] 28)
  have Hhx0 := hide (Keep.new (u19) (.cells #[.int .i64 y0_0, .int .i64 y0_1, .slice h0_a0 N0_0 h0_k0] 28))
  replace Hax0 := hide (Hax0.out.next hal)
  replace Hpd0 := hide (Hpd0.out.next hal)
  replace Hpx0 := hide (Hpx0.out.next hal)
  replace Hpx1 := hide (Hpx1.out.next hal)
  replace Hsx0 := hide (Hsx0.out.next hal)
  replace Hqd0 := hide (Hqd0.out.next hal)
  replace Hqx0 := hide (Hqx0.out.next hal)
  replace Hqx1 := hide (Hqx1.out.next hal)
  replace Hhd0 := hide (Hhd0.out.next hal)
  replace HW := hide (below_on HW.out hal)
  clear hal
  have hal := (Below.refl ((u19).alloc (.cells #[.int .i64 y0_0, .int .i64 y0_1, .slice h0_a0 N0_0 h0_k0] 28)).heap.size ((u19).alloc (.cells #[.int .i64 y0_0, .int .i64 y0_1, .slice h0_a0 N0_0 h0_k0] 28))).alloc (Nat.le_refl _) (.cells #[.int .i64 y1_0, .int .i64 y1_1, .int .i64 y1_2, .int .i64 y1_3, .bool y1_4, .bool y1_5] 36)
  have hsz15 := World.size_alloc ((u19).alloc (.cells #[.int .i64 y0_0, .int .i64 y0_1, .slice h0_a0 N0_0 h0_k0] 28)) (.cells #[.int .i64 y1_0, .int .i64 y1_1, .int .i64 y1_2, .int .i64 y1_3, .bool y1_4, .bool y1_5] 36)
  have Hhx1 := hide (Keep.new ((u19).alloc (.cells #[.int .i64 y0_0, .int .i64 y0_1, .slice h0_a0 N0_0 h0_k0] 28)) (.cells #[.int .i64 y1_0, .int .i64 y1_1, .int .i64 y1_2, .int .i64 y1_3, .bool y1_4, .bool y1_5] 36))
  rw [show ((u19).alloc (.cells #[.int .i64 y0_0, .int .i64 y0_1, .slice h0_a0 N0_0 h0_k0] 28)).heap.size = u19.heap.size + 1 from by simp only [World.size_alloc]] at Hhx1
  replace Hax0 := hide (Hax0.out.next hal)
  replace Hpd0 := hide (Hpd0.out.next hal)
  replace Hpx0 := hide (Hpx0.out.next hal)
  replace Hpx1 := hide (Hpx1.out.next hal)
  replace Hsx0 := hide (Hsx0.out.next hal)
  replace Hqd0 := hide (Hqd0.out.next hal)
  replace Hqx0 := hide (Hqx0.out.next hal)
  replace Hqx1 := hide (Hqx1.out.next hal)
  replace Hhd0 := hide (Hhd0.out.next hal)
  replace Hhx0 := hide (Hhx0.out.next hal)
  replace HW := hide (below_on HW.out hal)
  clear hal
  have c_px0_0 : (((u19).alloc (.cells #[.int .i64 y0_0, .int .i64 y0_1, .slice h0_a0 N0_0 h0_k0] 28)).alloc (.cells #[.int .i64 y1_0, .int .i64 y1_1, .int .i64 y1_2, .int .i64 y1_3, .bool y1_4, .bool y1_5] 36)).cell? ⟨u3.heap.size, 0, none⟩ = some (.int .i64 y0_0) := cell_of_row _ _ 0 _ _ _ Hpx0.out.here
  have c_px0_1 : (((u19).alloc (.cells #[.int .i64 y0_0, .int .i64 y0_1, .slice h0_a0 N0_0 h0_k0] 28)).alloc (.cells #[.int .i64 y1_0, .int .i64 y1_1, .int .i64 y1_2, .int .i64 y1_3, .bool y1_4, .bool y1_5] 36)).cell? ⟨u3.heap.size, 1, none⟩ = some (.int .i64 y0_1) := cell_of_row _ _ 1 _ _ _ Hpx0.out.here
  have c_px0_2 : (((u19).alloc (.cells #[.int .i64 y0_0, .int .i64 y0_1, .slice h0_a0 N0_0 h0_k0] 28)).alloc (.cells #[.int .i64 y1_0, .int .i64 y1_1, .int .i64 y1_2, .int .i64 y1_3, .bool y1_4, .bool y1_5] 36)).cell? ⟨u3.heap.size, 2, none⟩ = some (.slice p0_a0 N0_0 p0_k0) := cell_of_row _ _ 2 _ _ _ Hpx0.out.here
  have c_px1_0 : (((u19).alloc (.cells #[.int .i64 y0_0, .int .i64 y0_1, .slice h0_a0 N0_0 h0_k0] 28)).alloc (.cells #[.int .i64 y1_0, .int .i64 y1_1, .int .i64 y1_2, .int .i64 y1_3, .bool y1_4, .bool y1_5] 36)).cell? ⟨u3.heap.size + 1, 0, none⟩ = some (.int .i64 y1_0) := cell_of_row _ _ 0 _ _ _ Hpx1.out.here
  have c_px1_1 : (((u19).alloc (.cells #[.int .i64 y0_0, .int .i64 y0_1, .slice h0_a0 N0_0 h0_k0] 28)).alloc (.cells #[.int .i64 y1_0, .int .i64 y1_1, .int .i64 y1_2, .int .i64 y1_3, .bool y1_4, .bool y1_5] 36)).cell? ⟨u3.heap.size + 1, 1, none⟩ = some (.int .i64 y1_1) := cell_of_row _ _ 1 _ _ _ Hpx1.out.here
  have c_px1_2 : (((u19).alloc (.cells #[.int .i64 y0_0, .int .i64 y0_1, .slice h0_a0 N0_0 h0_k0] 28)).alloc (.cells #[.int .i64 y1_0, .int .i64 y1_1, .int .i64 y1_2, .int .i64 y1_3, .bool y1_4, .bool y1_5] 36)).cell? ⟨u3.heap.size + 1, 2, none⟩ = some (.int .i64 y1_2) := cell_of_row _ _ 2 _ _ _ Hpx1.out.here
  have c_px1_3 : (((u19).alloc (.cells #[.int .i64 y0_0, .int .i64 y0_1, .slice h0_a0 N0_0 h0_k0] 28)).alloc (.cells #[.int .i64 y1_0, .int .i64 y1_1, .int .i64 y1_2, .int .i64 y1_3, .bool y1_4, .bool y1_5] 36)).cell? ⟨u3.heap.size + 1, 3, none⟩ = some (.int .i64 y1_3) := cell_of_row _ _ 3 _ _ _ Hpx1.out.here
  have c_px1_4 : (((u19).alloc (.cells #[.int .i64 y0_0, .int .i64 y0_1, .slice h0_a0 N0_0 h0_k0] 28)).alloc (.cells #[.int .i64 y1_0, .int .i64 y1_1, .int .i64 y1_2, .int .i64 y1_3, .bool y1_4, .bool y1_5] 36)).cell? ⟨u3.heap.size + 1, 4, none⟩ = some (.bool y1_4) := cell_of_row _ _ 4 _ _ _ Hpx1.out.here
  have c_px1_5 : (((u19).alloc (.cells #[.int .i64 y0_0, .int .i64 y0_1, .slice h0_a0 N0_0 h0_k0] 28)).alloc (.cells #[.int .i64 y1_0, .int .i64 y1_1, .int .i64 y1_2, .int .i64 y1_3, .bool y1_4, .bool y1_5] 36)).cell? ⟨u3.heap.size + 1, 5, none⟩ = some (.bool y1_5) := cell_of_row _ _ 5 _ _ _ Hpx1.out.here
  have c_hx0_0 : (((u19).alloc (.cells #[.int .i64 y0_0, .int .i64 y0_1, .slice h0_a0 N0_0 h0_k0] 28)).alloc (.cells #[.int .i64 y1_0, .int .i64 y1_1, .int .i64 y1_2, .int .i64 y1_3, .bool y1_4, .bool y1_5] 36)).cell? ⟨u19.heap.size, 0, none⟩ = some (.int .i64 y0_0) := cell_of_row _ _ 0 _ _ _ Hhx0.out.here
  have c_hx0_1 : (((u19).alloc (.cells #[.int .i64 y0_0, .int .i64 y0_1, .slice h0_a0 N0_0 h0_k0] 28)).alloc (.cells #[.int .i64 y1_0, .int .i64 y1_1, .int .i64 y1_2, .int .i64 y1_3, .bool y1_4, .bool y1_5] 36)).cell? ⟨u19.heap.size, 1, none⟩ = some (.int .i64 y0_1) := cell_of_row _ _ 1 _ _ _ Hhx0.out.here
  have c_hx0_2 : (((u19).alloc (.cells #[.int .i64 y0_0, .int .i64 y0_1, .slice h0_a0 N0_0 h0_k0] 28)).alloc (.cells #[.int .i64 y1_0, .int .i64 y1_1, .int .i64 y1_2, .int .i64 y1_3, .bool y1_4, .bool y1_5] 36)).cell? ⟨u19.heap.size, 2, none⟩ = some (.slice h0_a0 N0_0 h0_k0) := cell_of_row _ _ 2 _ _ _ Hhx0.out.here
  have c_hx1_0 : (((u19).alloc (.cells #[.int .i64 y0_0, .int .i64 y0_1, .slice h0_a0 N0_0 h0_k0] 28)).alloc (.cells #[.int .i64 y1_0, .int .i64 y1_1, .int .i64 y1_2, .int .i64 y1_3, .bool y1_4, .bool y1_5] 36)).cell? ⟨u19.heap.size + 1, 0, none⟩ = some (.int .i64 y1_0) := cell_of_row _ _ 0 _ _ _ Hhx1.out.here
  have c_hx1_1 : (((u19).alloc (.cells #[.int .i64 y0_0, .int .i64 y0_1, .slice h0_a0 N0_0 h0_k0] 28)).alloc (.cells #[.int .i64 y1_0, .int .i64 y1_1, .int .i64 y1_2, .int .i64 y1_3, .bool y1_4, .bool y1_5] 36)).cell? ⟨u19.heap.size + 1, 1, none⟩ = some (.int .i64 y1_1) := cell_of_row _ _ 1 _ _ _ Hhx1.out.here
  have c_hx1_2 : (((u19).alloc (.cells #[.int .i64 y0_0, .int .i64 y0_1, .slice h0_a0 N0_0 h0_k0] 28)).alloc (.cells #[.int .i64 y1_0, .int .i64 y1_1, .int .i64 y1_2, .int .i64 y1_3, .bool y1_4, .bool y1_5] 36)).cell? ⟨u19.heap.size + 1, 2, none⟩ = some (.int .i64 y1_2) := cell_of_row _ _ 2 _ _ _ Hhx1.out.here
  have c_hx1_3 : (((u19).alloc (.cells #[.int .i64 y0_0, .int .i64 y0_1, .slice h0_a0 N0_0 h0_k0] 28)).alloc (.cells #[.int .i64 y1_0, .int .i64 y1_1, .int .i64 y1_2, .int .i64 y1_3, .bool y1_4, .bool y1_5] 36)).cell? ⟨u19.heap.size + 1, 3, none⟩ = some (.int .i64 y1_3) := cell_of_row _ _ 3 _ _ _ Hhx1.out.here
  have c_hx1_4 : (((u19).alloc (.cells #[.int .i64 y0_0, .int .i64 y0_1, .slice h0_a0 N0_0 h0_k0] 28)).alloc (.cells #[.int .i64 y1_0, .int .i64 y1_1, .int .i64 y1_2, .int .i64 y1_3, .bool y1_4, .bool y1_5] 36)).cell? ⟨u19.heap.size + 1, 4, none⟩ = some (.bool y1_4) := cell_of_row _ _ 4 _ _ _ Hhx1.out.here
  have c_hx1_5 : (((u19).alloc (.cells #[.int .i64 y0_0, .int .i64 y0_1, .slice h0_a0 N0_0 h0_k0] 28)).alloc (.cells #[.int .i64 y1_0, .int .i64 y1_1, .int .i64 y1_2, .int .i64 y1_3, .bool y1_4, .bool y1_5] 36)).cell? ⟨u19.heap.size + 1, 5, none⟩ = some (.bool y1_5) := cell_of_row _ _ 5 _ _ _ Hhx1.out.here
  go_wp2_with fail
  generalize ((u19).alloc (.cells #[.int .i64 y0_0, .int .i64 y0_1, .slice h0_a0 N0_0 h0_k0] 28)).alloc (.cells #[.int .i64 y1_0, .int .i64 y1_1, .int .i64 y1_2, .int .i64 y1_3, .bool y1_4, .bool y1_5] 36) = V20 at *
  clear c_px0_0 c_px0_1 c_px0_2 c_px1_0 c_px1_1 c_px1_2 c_px1_3 c_px1_4 c_px1_5 c_hx0_0 c_hx0_1 c_hx0_2 c_hx1_0 c_hx1_1 c_hx1_2 c_hx1_3 c_hx1_4 c_hx1_5
  refine (HhQ0.out _ h0_a0 h0_k0 p0_a0 p0_k0 _ _ _ _ Hhd0.out.here Hpd0.out.here).mono ?_
  rintro e u21 ⟨rfl, hb⟩
  replace Hax0 := hide (Hax0.out.next hb)
  replace Hpd0 := hide (Hpd0.out.next hb)
  replace Hpx0 := hide (Hpx0.out.next hb)
  replace Hpx1 := hide (Hpx1.out.next hb)
  replace Hsx0 := hide (Hsx0.out.next hb)
  replace Hqd0 := hide (Hqd0.out.next hb)
  replace Hqx0 := hide (Hqx0.out.next hb)
  replace Hqx1 := hide (Hqx1.out.next hb)
  replace Hhd0 := hide (Hhd0.out.next hb)
  replace Hhx0 := hide (Hhx0.out.next hb)
  replace Hhx1 := hide (Hhx1.out.next hb)
  replace HW := hide (below_on HW.out hb)
  have z16 := hb.size
  clear hb
  have c_px0_0 : (u21).cell? ⟨u3.heap.size, 0, none⟩ = some (.int .i64 y0_0) := cell_of_row _ _ 0 _ _ _ Hpx0.out.here
  have c_px0_1 : (u21).cell? ⟨u3.heap.size, 1, none⟩ = some (.int .i64 y0_1) := cell_of_row _ _ 1 _ _ _ Hpx0.out.here
  have c_px0_2 : (u21).cell? ⟨u3.heap.size, 2, none⟩ = some (.slice p0_a0 N0_0 p0_k0) := cell_of_row _ _ 2 _ _ _ Hpx0.out.here
  have c_px1_0 : (u21).cell? ⟨u3.heap.size + 1, 0, none⟩ = some (.int .i64 y1_0) := cell_of_row _ _ 0 _ _ _ Hpx1.out.here
  have c_px1_1 : (u21).cell? ⟨u3.heap.size + 1, 1, none⟩ = some (.int .i64 y1_1) := cell_of_row _ _ 1 _ _ _ Hpx1.out.here
  have c_px1_2 : (u21).cell? ⟨u3.heap.size + 1, 2, none⟩ = some (.int .i64 y1_2) := cell_of_row _ _ 2 _ _ _ Hpx1.out.here
  have c_px1_3 : (u21).cell? ⟨u3.heap.size + 1, 3, none⟩ = some (.int .i64 y1_3) := cell_of_row _ _ 3 _ _ _ Hpx1.out.here
  have c_px1_4 : (u21).cell? ⟨u3.heap.size + 1, 4, none⟩ = some (.bool y1_4) := cell_of_row _ _ 4 _ _ _ Hpx1.out.here
  have c_px1_5 : (u21).cell? ⟨u3.heap.size + 1, 5, none⟩ = some (.bool y1_5) := cell_of_row _ _ 5 _ _ _ Hpx1.out.here
  have c_hx0_0 : (u21).cell? ⟨u19.heap.size, 0, none⟩ = some (.int .i64 y0_0) := cell_of_row _ _ 0 _ _ _ Hhx0.out.here
  have c_hx0_1 : (u21).cell? ⟨u19.heap.size, 1, none⟩ = some (.int .i64 y0_1) := cell_of_row _ _ 1 _ _ _ Hhx0.out.here
  have c_hx0_2 : (u21).cell? ⟨u19.heap.size, 2, none⟩ = some (.slice h0_a0 N0_0 h0_k0) := cell_of_row _ _ 2 _ _ _ Hhx0.out.here
  have c_hx1_0 : (u21).cell? ⟨u19.heap.size + 1, 0, none⟩ = some (.int .i64 y1_0) := cell_of_row _ _ 0 _ _ _ Hhx1.out.here
  have c_hx1_1 : (u21).cell? ⟨u19.heap.size + 1, 1, none⟩ = some (.int .i64 y1_1) := cell_of_row _ _ 1 _ _ _ Hhx1.out.here
  have c_hx1_2 : (u21).cell? ⟨u19.heap.size + 1, 2, none⟩ = some (.int .i64 y1_2) := cell_of_row _ _ 2 _ _ _ Hhx1.out.here
  have c_hx1_3 : (u21).cell? ⟨u19.heap.size + 1, 3, none⟩ = some (.int .i64 y1_3) := cell_of_row _ _ 3 _ _ _ Hhx1.out.here
  have c_hx1_4 : (u21).cell? ⟨u19.heap.size + 1, 4, none⟩ = some (.bool y1_4) := cell_of_row _ _ 4 _ _ _ Hhx1.out.here
  have c_hx1_5 : (u21).cell? ⟨u19.heap.size + 1, 5, none⟩ = some (.bool y1_5) := cell_of_row _ _ 5 _ _ _ Hhx1.out.here
  go_wp2_with fail
  refine (HhQ1.out _).mono ?_
  rintro e u22 ⟨rfl, hb⟩
  clear c_px0_0 c_px0_1 c_px0_2 c_px1_0 c_px1_1 c_px1_2 c_px1_3 c_px1_4 c_px1_5 c_hx0_0 c_hx0_1 c_hx0_2 c_hx1_0 c_hx1_1 c_hx1_2 c_hx1_3 c_hx1_4 c_hx1_5
  replace Hax0 := hide (Hax0.out.next hb)
  replace Hpd0 := hide (Hpd0.out.next hb)
  replace Hpx0 := hide (Hpx0.out.next hb)
  replace Hpx1 := hide (Hpx1.out.next hb)
  replace Hsx0 := hide (Hsx0.out.next hb)
  replace Hqd0 := hide (Hqd0.out.next hb)
  replace Hqx0 := hide (Hqx0.out.next hb)
  replace Hqx1 := hide (Hqx1.out.next hb)
  replace Hhd0 := hide (Hhd0.out.next hb)
  replace Hhx0 := hide (Hhx0.out.next hb)
  replace Hhx1 := hide (Hhx1.out.next hb)
  replace HW := hide (below_on HW.out hb)
  have z17 := hb.size
  clear hb
  have c_qx0_0 : (u22).cell? ⟨u7.heap.size, 0, none⟩ = some (.int .i64 y0_0) := cell_of_row _ _ 0 _ _ _ Hqx0.out.here
  have c_qx0_1 : (u22).cell? ⟨u7.heap.size, 1, none⟩ = some (.int .i64 y0_1) := cell_of_row _ _ 1 _ _ _ Hqx0.out.here
  have c_qx0_2 : (u22).cell? ⟨u7.heap.size, 2, none⟩ = some (.slice q0_a0 N0_0 q0_k0) := cell_of_row _ _ 2 _ _ _ Hqx0.out.here
  have c_qx1_0 : (u22).cell? ⟨u7.heap.size + 1, 0, none⟩ = some (.int .i64 y1_0) := cell_of_row _ _ 0 _ _ _ Hqx1.out.here
  have c_qx1_1 : (u22).cell? ⟨u7.heap.size + 1, 1, none⟩ = some (.int .i64 y1_1) := cell_of_row _ _ 1 _ _ _ Hqx1.out.here
  have c_qx1_2 : (u22).cell? ⟨u7.heap.size + 1, 2, none⟩ = some (.int .i64 y1_2) := cell_of_row _ _ 2 _ _ _ Hqx1.out.here
  have c_qx1_3 : (u22).cell? ⟨u7.heap.size + 1, 3, none⟩ = some (.int .i64 y1_3) := cell_of_row _ _ 3 _ _ _ Hqx1.out.here
  have c_qx1_4 : (u22).cell? ⟨u7.heap.size + 1, 4, none⟩ = some (.bool y1_4) := cell_of_row _ _ 4 _ _ _ Hqx1.out.here
  have c_qx1_5 : (u22).cell? ⟨u7.heap.size + 1, 5, none⟩ = some (.bool y1_5) := cell_of_row _ _ 5 _ _ _ Hqx1.out.here
  go_wp2_with fail
  refine (HhH0.out _ q0_a0 q0_k0 _ _ Hqd0.out.here).mono ?_
  rintro e u23 ⟨rfl, hb⟩
  clear c_qx0_0 c_qx0_1 c_qx0_2 c_qx1_0 c_qx1_1 c_qx1_2 c_qx1_3 c_qx1_4 c_qx1_5
  replace Hax0 := hide (Hax0.out.next hb)
  replace Hpd0 := hide (Hpd0.out.next hb)
  replace Hpx0 := hide (Hpx0.out.next hb)
  replace Hpx1 := hide (Hpx1.out.next hb)
  replace Hsx0 := hide (Hsx0.out.next hb)
  replace Hqd0 := hide (Hqd0.out.next hb)
  replace Hqx0 := hide (Hqx0.out.next hb)
  replace Hqx1 := hide (Hqx1.out.next hb)
  replace Hhd0 := hide (Hhd0.out.next hb)
  replace Hhx0 := hide (Hhx0.out.next hb)
  replace Hhx1 := hide (Hhx1.out.next hb)
  replace HW := hide (below_on HW.out hb)
  have z18 := hb.size
  clear hb
  go_wp2_with fail
  go_ret
  exact ⟨rfl, HW.out⟩
end Go.Proofs.Ytfffkgladjphoaa
