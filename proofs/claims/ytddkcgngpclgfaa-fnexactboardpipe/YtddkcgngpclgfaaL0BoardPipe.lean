/-
Contracts of functions of this seat.
-/
import Derived.Test.YtddkcgngpclgfaaRows
import Derived.WalkKit
import Derived.ProofKit
import Derived.OpenShut
import Derived.Test.YtddkcgngpclgfaaBly
namespace Go.Proofs.Ytddkcgngpclgfaa
open Go.ChangeShapes Go.WideShapes Go.ChangeAt Go.RowKit
set_option linter.unusedVariables false
set_option maxRecDepth 100000
abbrev InBoardPipe0 (w w' : World) (g h : Nat) (x0_0 : Int) (x0_1 : Int) (o0_a0 s0_a0 : Option Addr) (n0_0 o0_k0 s0_k0 : Nat) : Prop := Below w.heap.size w w' ∧ g < w'.heap.size ∧ h < w'.heap.size ∧ w'.cell? ⟨g, 0, none⟩ = some (.int .i64 x0_0) ∧ w'.cell? ⟨g, 1, none⟩ = some (.int .i64 x0_1) ∧ w'.cell? ⟨g, 2, none⟩ = some (.slice o0_a0 n0_0 o0_k0) ∧ w'.cell? ⟨h, 0, none⟩ = some (.int .i64 x0_0) ∧ w'.cell? ⟨h, 1, none⟩ = some (.int .i64 x0_1) ∧ w'.cell? ⟨h, 2, none⟩ = some (.slice s0_a0 n0_0 s0_k0)
theorem InBoardPipe0.next {w w' w2 : World} {g h : Nat} {x0_0 : Int} {x0_1 : Int} {o0_a0 s0_a0 : Option Addr} {n0_0 o0_k0 s0_k0 : Nat} (H : InBoardPipe0 w w' g h x0_0 x0_1 o0_a0 s0_a0 n0_0 o0_k0 s0_k0) (hb : Below w'.heap.size w' w2) : InBoardPipe0 w w2 g h x0_0 x0_1 o0_a0 s0_a0 n0_0 o0_k0 s0_k0 := by
  obtain ⟨h1, h2, h3, k0, k1, k2, l0, l1, l2⟩ := H
  exact ⟨below_on h1 hb, Nat.lt_of_lt_of_le h2 hb.size, Nat.lt_of_lt_of_le h3 hb.size, by rw [hb.cell (p := ⟨g, 0, none⟩) h2]; exact k0, by rw [hb.cell (p := ⟨g, 1, none⟩) h2]; exact k1, by rw [hb.cell (p := ⟨g, 2, none⟩) h2]; exact k2, by rw [hb.cell (p := ⟨h, 0, none⟩) h3]; exact l0, by rw [hb.cell (p := ⟨h, 1, none⟩) h3]; exact l1, by rw [hb.cell (p := ⟨h, 2, none⟩) h3]; exact l2⟩
theorem InBoardPipe0.start {w w' : World} {g h : Nat} {tg th : Nat} {x0_0 : Int} {x0_1 : Int} {o0_a0 s0_a0 : Option Addr} {n0_0 o0_k0 s0_k0 : Nat} (hw : Below w.heap.size w w') (hg : w'.heap[g]? = some (.cells #[.int .i64 x0_0, .int .i64 x0_1, .slice o0_a0 n0_0 o0_k0] tg)) (hh : w'.heap[h]? = some (.cells #[.int .i64 x0_0, .int .i64 x0_1, .slice s0_a0 n0_0 s0_k0] th)) : InBoardPipe0 w w' g h x0_0 x0_1 o0_a0 s0_a0 n0_0 o0_k0 s0_k0 :=
  ⟨hw, (Array.getElem?_eq_some_iff.1 hg).1, (Array.getElem?_eq_some_iff.1 hh).1, cell_of_row _ _ 0 _ _ _ hg, cell_of_row _ _ 1 _ _ _ hg, cell_of_row _ _ 2 _ _ _ hg, cell_of_row _ _ 0 _ _ _ hh, cell_of_row _ _ 1 _ _ _ hh, cell_of_row _ _ 2 _ _ _ hh⟩
set_option maxHeartbeats 8000000 in
set_option maxRecDepth 100000 in
theorem walkBoardPipe0 (w : World) (x0_0 : Int) (x0_1 : Int) (o0_a0 : Option Addr) (n0_0 o0_k0 : Nat) (ds0 : List D) (C0 : Int) (l0 : Int) (hl0 : 0 ≤ l0) (hZ0 : ∀ (W : World), Calls Try.prog 9 #[.agg #[.int .i64 x0_0, .int .i64 x0_1, .slice o0_a0 n0_0 o0_k0], .int .i64 1048576] W fun e w' => e = .returned (.int .i64 l0) ∧ Below W.heap.size W w') (hT0 : ∀ (W : World), Below w.heap.size w W → Calls Try.prog 11 #[.agg #[.int .i64 x0_0, .int .i64 x0_1, .slice o0_a0 n0_0 o0_k0]] W fun e w' => ∃ (c0_a0 : Option Addr) (c0_k0 : Nat) (bs : List Nat), e = .returned (.agg #[.int .i64 x0_0, .int .i64 x0_1, .slice c0_a0 n0_0 c0_k0]) ∧ HoldsL w' W.heap.size ds0 [.slice c0_a0 n0_0 c0_k0] bs ∧ bs.Nodup ∧ Below W.heap.size W w') (hS : ∀ (W : World) (c0_a0 : Option Addr) (c0_k0 : Nat) (B0 : Nat) (bs0 : List Nat), Below w.heap.size w W → HoldsL W B0 ds0 [.slice c0_a0 n0_0 c0_k0] bs0 → Calls Try.prog 10 #[.agg #[.int .i64 x0_0, .int .i64 x0_1, .slice c0_a0 n0_0 c0_k0]] W fun e w' => e = .returned (.int .i64 C0) ∧ Below W.heap.size W w') (hI : ∀ (W : World) (c0_a0 : Option Addr) (c0_k0 : Nat) (B0 : Nat) (bs0 : List Nat), Below w.heap.size w W → HoldsL W B0 ds0 [.slice c0_a0 n0_0 c0_k0] bs0 → Calls Try.prog 12 #[.agg #[.int .i64 x0_0, .int .i64 x0_1, .slice c0_a0 n0_0 c0_k0]] W fun e w' => e = .returned (.int .i64 C0) ∧ Below W.heap.size W w') (hE0 : ∀ (W : World) (c0_a0 : Option Addr) (c0_k0 : Nat) (e0_a0 : Option Addr) (e0_k0 : Nat) (B1 B2 : Nat) (b1 b2 : List Nat), HoldsL W B1 ds0 [.slice c0_a0 n0_0 c0_k0] b1 → HoldsL W B2 ds0 [.slice e0_a0 n0_0 e0_k0] b2 → Calls Try.prog 13 #[.agg #[.int .i64 x0_0, .int .i64 x0_1, .slice c0_a0 n0_0 c0_k0], .agg #[.int .i64 x0_0, .int .i64 x0_1, .slice e0_a0 n0_0 e0_k0]] W fun e w' => e = .returned (.bool true) ∧ Below W.heap.size W w') :
    Calls Try.prog 3 #[.agg #[.int .i64 x0_0, .int .i64 x0_1, .slice o0_a0 n0_0 o0_k0]] w fun e w' => e = .returned (.bool true) ∧ Below w.heap.size w w' := by
  have HhT0 := hide hT0
  have HhS := hide hS
  have HhI := hide hI
  have HhE0 := hide hE0
  have HhZ0 := hide hZ0
  clear hT0 hS hI hE0 hZ0
  have HW := hide (Below.refl w.heap.size w)
  have hal := (Below.refl (w).heap.size (w)).alloc (Nat.le_refl _) (.cells #[.int .i64 x0_0, .int .i64 x0_1, .slice o0_a0 n0_0 o0_k0] 24)
  have hsz0 := World.size_alloc (w) (.cells #[.int .i64 x0_0, .int .i64 x0_1, .slice o0_a0 n0_0 o0_k0] 24)
  have Hax0 := hide (Keep.new (w) (.cells #[.int .i64 x0_0, .int .i64 x0_1, .slice o0_a0 n0_0 o0_k0] 24))
  replace HW := hide (below_on HW.out hal)
  clear hal
  have c_ax0_0 : ((w).alloc (.cells #[.int .i64 x0_0, .int .i64 x0_1, .slice o0_a0 n0_0 o0_k0] 24)).cell? ⟨w.heap.size, 0, none⟩ = some (.int .i64 x0_0) := cell_of_row _ _ 0 _ _ _ Hax0.out.here
  have c_ax0_1 : ((w).alloc (.cells #[.int .i64 x0_0, .int .i64 x0_1, .slice o0_a0 n0_0 o0_k0] 24)).cell? ⟨w.heap.size, 1, none⟩ = some (.int .i64 x0_1) := cell_of_row _ _ 1 _ _ _ Hax0.out.here
  have c_ax0_2 : ((w).alloc (.cells #[.int .i64 x0_0, .int .i64 x0_1, .slice o0_a0 n0_0 o0_k0] 24)).cell? ⟨w.heap.size, 2, none⟩ = some (.slice o0_a0 n0_0 o0_k0) := cell_of_row _ _ 2 _ _ _ Hax0.out.here
  go_enter Try.func3, Try.ntmps3
  go_wp2_with fail
  generalize (w).alloc (.cells #[.int .i64 x0_0, .int .i64 x0_1, .slice o0_a0 n0_0 o0_k0] 24) = V0 at *
  have z0 : w.heap.size ≤ V0.heap.size := HW.out.size
  refine (HhZ0.out _).mono ?_
  rintro e u1 ⟨rfl, hb⟩
  clear c_ax0_0 c_ax0_1 c_ax0_2
  replace Hax0 := hide (Hax0.out.next hb)
  replace HW := hide (below_on HW.out hb)
  have z1 := hb.size
  clear hb
  clear HhZ0
  have c_ax0_0 : (u1).cell? ⟨w.heap.size, 0, none⟩ = some (.int .i64 x0_0) := cell_of_row _ _ 0 _ _ _ Hax0.out.here
  have c_ax0_1 : (u1).cell? ⟨w.heap.size, 1, none⟩ = some (.int .i64 x0_1) := cell_of_row _ _ 1 _ _ _ Hax0.out.here
  have c_ax0_2 : (u1).cell? ⟨w.heap.size, 2, none⟩ = some (.slice o0_a0 n0_0 o0_k0) := cell_of_row _ _ 2 _ _ _ Hax0.out.here
  go_wp2_with fail
  refine (HhT0.out _ HW.out).mono ?_
  rintro e u2 ⟨r0_a0, r0_k0, rb0, rfl, ro0, rn0, hb⟩
  have Hrn0 := hide rn0
  clear rn0
  clear c_ax0_0 c_ax0_1 c_ax0_2
  replace Hax0 := hide (Hax0.out.next hb)
  replace HW := hide (below_on HW.out hb)
  have z2 := hb.size
  clear hb
  have lo_rd0 : ∀ b ∈ rb0, u1.heap.size ≤ b := fun b hb => (HoldsL.lt _ _ _ ro0 b hb).1
  have hi_rd0 : ∀ b ∈ rb0, b < u2.heap.size := fun b hb => (HoldsL.lt _ _ _ ro0 b hb).2
  have Hrd0 := hide (Keep.data ro0)
  clear ro0
  have Hlo_rd0 := hide lo_rd0
  have Hhi_rd0 := hide hi_rd0
  clear lo_rd0 hi_rd0
  go_wp2_with fail
  refine (HhS.out _ r0_a0 r0_k0 _ _ HW.out Hrd0.out.here).mono ?_
  rintro e u3 ⟨rfl, hb⟩
  replace Hax0 := hide (Hax0.out.next hb)
  replace Hrd0 := hide (Hrd0.out.next hb)
  replace HW := hide (below_on HW.out hb)
  have z3 := hb.size
  clear hb
  clear Hrd0
  clear Hlo_rd0 Hhi_rd0
  have c_ax0_0 : (u3).cell? ⟨w.heap.size, 0, none⟩ = some (.int .i64 x0_0) := cell_of_row _ _ 0 _ _ _ Hax0.out.here
  have c_ax0_1 : (u3).cell? ⟨w.heap.size, 1, none⟩ = some (.int .i64 x0_1) := cell_of_row _ _ 1 _ _ _ Hax0.out.here
  have c_ax0_2 : (u3).cell? ⟨w.heap.size, 2, none⟩ = some (.slice o0_a0 n0_0 o0_k0) := cell_of_row _ _ 2 _ _ _ Hax0.out.here
  go_wp2_with fail
  have zz3 := HW.out.size
  refine (HhT0.out _ HW.out).mono ?_
  rintro e u4 ⟨s0_a0, s0_k0, sb0, rfl, so0, sn0, hb⟩
  have Hsn0 := hide sn0
  clear sn0
  clear c_ax0_0 c_ax0_1 c_ax0_2
  replace Hax0 := hide (Hax0.out.next hb)
  replace HW := hide (below_on HW.out hb)
  have z4 := hb.size
  clear hb
  have lo_sd0 : ∀ b ∈ sb0, u3.heap.size ≤ b := fun b hb => (HoldsL.lt _ _ _ so0 b hb).1
  have hi_sd0 : ∀ b ∈ sb0, b < u4.heap.size := fun b hb => (HoldsL.lt _ _ _ so0 b hb).2
  have Hsd0 := hide (Keep.data so0)
  clear so0
  have Hlo_sd0 := hide lo_sd0
  have Hhi_sd0 := hide hi_sd0
  clear lo_sd0 hi_sd0
  have hal := (Below.refl (u4).heap.size (u4)).alloc (Nat.le_refl _) (.cells #[.int .i64 x0_0, .int .i64 x0_1, .slice s0_a0 n0_0 s0_k0] 29)
  have hsz4 := World.size_alloc (u4) (.cells #[.int .i64 x0_0, .int .i64 x0_1, .slice s0_a0 n0_0 s0_k0] 29)
  have Hsx0 := hide (Keep.new (u4) (.cells #[.int .i64 x0_0, .int .i64 x0_1, .slice s0_a0 n0_0 s0_k0] 29))
  replace Hax0 := hide (Hax0.out.next hal)
  replace Hsd0 := hide (Hsd0.out.next hal)
  replace HW := hide (below_on HW.out hal)
  clear hal
  have c_ax0_0 : ((u4).alloc (.cells #[.int .i64 x0_0, .int .i64 x0_1, .slice s0_a0 n0_0 s0_k0] 29)).cell? ⟨w.heap.size, 0, none⟩ = some (.int .i64 x0_0) := cell_of_row _ _ 0 _ _ _ Hax0.out.here
  have c_ax0_1 : ((u4).alloc (.cells #[.int .i64 x0_0, .int .i64 x0_1, .slice s0_a0 n0_0 s0_k0] 29)).cell? ⟨w.heap.size, 1, none⟩ = some (.int .i64 x0_1) := cell_of_row _ _ 1 _ _ _ Hax0.out.here
  have c_ax0_2 : ((u4).alloc (.cells #[.int .i64 x0_0, .int .i64 x0_1, .slice s0_a0 n0_0 s0_k0] 29)).cell? ⟨w.heap.size, 2, none⟩ = some (.slice o0_a0 n0_0 o0_k0) := cell_of_row _ _ 2 _ _ _ Hax0.out.here
  have c_sx0_0 : ((u4).alloc (.cells #[.int .i64 x0_0, .int .i64 x0_1, .slice s0_a0 n0_0 s0_k0] 29)).cell? ⟨u4.heap.size, 0, none⟩ = some (.int .i64 x0_0) := cell_of_row _ _ 0 _ _ _ Hsx0.out.here
  have c_sx0_1 : ((u4).alloc (.cells #[.int .i64 x0_0, .int .i64 x0_1, .slice s0_a0 n0_0 s0_k0] 29)).cell? ⟨u4.heap.size, 1, none⟩ = some (.int .i64 x0_1) := cell_of_row _ _ 1 _ _ _ Hsx0.out.here
  have c_sx0_2 : ((u4).alloc (.cells #[.int .i64 x0_0, .int .i64 x0_1, .slice s0_a0 n0_0 s0_k0] 29)).cell? ⟨u4.heap.size, 2, none⟩ = some (.slice s0_a0 n0_0 s0_k0) := cell_of_row _ _ 2 _ _ _ Hsx0.out.here
  go_wp2_with fail
  generalize (u4).alloc (.cells #[.int .i64 x0_0, .int .i64 x0_1, .slice s0_a0 n0_0 s0_k0] 29) = V5 at *
  clear c_ax0_0 c_ax0_1 c_ax0_2 c_sx0_0 c_sx0_1 c_sx0_2
  refine (HhI.out _ s0_a0 s0_k0 _ _ HW.out Hsd0.out.here).mono ?_
  rintro e u6 ⟨rfl, hb⟩
  replace Hax0 := hide (Hax0.out.next hb)
  replace Hsd0 := hide (Hsd0.out.next hb)
  replace Hsx0 := hide (Hsx0.out.next hb)
  replace HW := hide (below_on HW.out hb)
  have z5 := hb.size
  clear hb
  go_wp2_with fail
  go_wp2_with fail
  have HI := hide (InBoardPipe0.start HW.out Hax0.out.here Hsx0.out.here)
  go_region_held3 (fun w' => InBoardPipe0 w w' w.heap.size u4.heap.size x0_0 x0_1 o0_a0 s0_a0 n0_0 o0_k0 s0_k0) (with_reducible first | assumption | exact HI.out.next ((Below.refl _ _).drew) | exact InBoardPipe0.next (by assumption) hb7 | exact InBoardPipe0.next (by assumption) hb8)
    (first
      | (go_at_call 11; refine (HhT0.out _ (by assumption : InBoardPipe0 w _ _ _ x0_0 x0_1 o0_a0 s0_a0 n0_0 o0_k0 s0_k0).1).mono ?_; rintro e w7 ⟨t0_a0, t0_k0, tb0, rfl, to0, tn0, hb7⟩; have hsx := (Hsd0.out.next ((Below.refl _ _).drew)).next hb7)
      | (go_at_call 13; refine (HhE0.out _ s0_a0 s0_k0 t0_a0 t0_k0 _ _ _ _ hsx.here to0).mono ?_; rintro e w8 ⟨rfl, hb8⟩))
  have hb : Below u6.heap.size u6 w8 := (below_drew hb7).trans (hb8.mono hb7.size)
  clear hb7 hb8 hsx to0 tn0 HI
  replace Hax0 := hide (Hax0.out.next hb)
  replace Hsd0 := hide (Hsd0.out.next hb)
  replace Hsx0 := hide (Hsx0.out.next hb)
  replace HW := hide (below_on HW.out hb)
  have z6 := hb.size
  clear hb
  generalize w8 = u8 at *
  go_wp2_with fail
  go_ret
  exact ⟨rfl, HW.out⟩
end Go.Proofs.Ytddkcgngpclgfaa
