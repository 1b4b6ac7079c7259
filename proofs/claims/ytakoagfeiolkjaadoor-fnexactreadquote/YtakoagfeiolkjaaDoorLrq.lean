/-
Contracts of functions of this seat.
-/
import Derived.Test.YtakoagfeiolkjaaDoorRows
import Derived.WalkKit
import Derived.ProofKit
import Derived.OpenShut
import Derived.Test.YtakoagfeiolkjaaDoorLkp
namespace Go.Proofs.YtakoagfeiolkjaaDoor
open Go.ChangeShapes Go.WideShapes Go.ChangeAt Go.RowKit
set_option linter.unusedVariables false
set_option maxRecDepth 100000
set_option maxHeartbeats 8000000 in
set_option maxRecDepth 100000 in
theorem walkReadQuote0 (w : World) (o0_a0 : Option Addr) (n0_0 o0_k0 : Nat) (ds0 : List D) (y0_0 : Int) (y0_1 : Int) (y0_2 : Int) (y0_3 : Int) (y0_4 : Int) (y0_5 : Int) (y0_6 : Int) (C1 : Int) (hlen : (n0_0 : Int) ≤ 1048576) (hT0 : ∀ (W : World), Below w.heap.size w W → Calls Tryd.prog 7 #[.slice o0_a0 n0_0 o0_k0] W fun e w' => ∃ (c0_a0 : Option Addr) (c0_k0 : Nat) (bs : List Nat), e = .returned (.slice c0_a0 n0_0 c0_k0) ∧ HoldsL w' W.heap.size ds0 [.slice c0_a0 n0_0 c0_k0] bs ∧ bs.Nodup ∧ Below W.heap.size W w') (hS : ∀ (W : World) (c0_a0 : Option Addr) (c0_k0 : Nat) (B0 : Nat) (bs0 : List Nat), Below w.heap.size w W → HoldsL W B0 ds0 [.slice c0_a0 n0_0 c0_k0] bs0 → Calls Tryd.prog 6 #[.slice c0_a0 n0_0 c0_k0] W fun e w' => e = .returned (.tuple #[.agg #[.int .i64 y0_0, .int .i64 y0_1, .int .i64 y0_2, .int .i64 y0_3, .int .i64 y0_4, .int .i64 y0_5, .int .i64 y0_6], .int .i64 C1]) ∧ Below W.heap.size W w') (hI : ∀ (W : World) (c0_a0 : Option Addr) (c0_k0 : Nat) (B0 : Nat) (bs0 : List Nat), Below w.heap.size w W → HoldsL W B0 ds0 [.slice c0_a0 n0_0 c0_k0] bs0 → Calls Tryd.prog 8 #[.slice c0_a0 n0_0 c0_k0] W fun e w' => e = .returned (.tuple #[.agg #[.int .i64 y0_0, .int .i64 y0_1, .int .i64 y0_2, .int .i64 y0_3, .int .i64 y0_4, .int .i64 y0_5, .int .i64 y0_6], .int .i64 C1]) ∧ Below W.heap.size W w') (hE0 : ∀ (W : World) (c0_a0 : Option Addr) (c0_k0 : Nat) (e0_a0 : Option Addr) (e0_k0 : Nat) (B1 B2 : Nat) (b1 b2 : List Nat), HoldsL W B1 ds0 [.slice c0_a0 n0_0 c0_k0] b1 → HoldsL W B2 ds0 [.slice e0_a0 n0_0 e0_k0] b2 → Calls Tryd.prog 10 #[.slice c0_a0 n0_0 c0_k0, .slice e0_a0 n0_0 e0_k0] W fun e w' => e = .returned (.bool true) ∧ Below W.heap.size W w') (hQ0 : ∀ (W : World), Calls Tryd.prog 9 #[.agg #[.int .i64 y0_0, .int .i64 y0_1, .int .i64 y0_2, .int .i64 y0_3, .int .i64 y0_4, .int .i64 y0_5, .int .i64 y0_6], .agg #[.int .i64 y0_0, .int .i64 y0_1, .int .i64 y0_2, .int .i64 y0_3, .int .i64 y0_4, .int .i64 y0_5, .int .i64 y0_6]] W fun e w' => e = .returned (.bool true) ∧ Below W.heap.size W w') :
    Calls Tryd.prog 3 #[.slice o0_a0 n0_0 o0_k0] w fun e w' => e = .returned (.bool true) ∧ Below w.heap.size w w' := by
  have HhT0 := hide hT0
  have HhS := hide hS
  have HhI := hide hI
  have HhE0 := hide hE0
  have HhQ0 := hide hQ0
  clear hT0 hS hI hE0 hQ0
  have HW := hide (Below.refl w.heap.size w)
  go_enter Tryd.func3, Tryd.ntmps3
  go_wp2_with fail
  have z0 : w.heap.size ≤ w.heap.size := Nat.le_refl _
  refine (HhT0.out _ HW.out).mono ?_
  rintro e u1 ⟨r0_a0, r0_k0, rb0, rfl, ro0, rn0, hb⟩
  have Hrn0 := hide rn0
  clear rn0
  replace HW := hide (below_on HW.out hb)
  have z1 := hb.size
  clear hb
  have lo_rd0 : ∀ b ∈ rb0, w.heap.size ≤ b := fun b hb => (HoldsL.lt _ _ _ ro0 b hb).1
  have hi_rd0 : ∀ b ∈ rb0, b < u1.heap.size := fun b hb => (HoldsL.lt _ _ _ ro0 b hb).2
  have Hrd0 := hide (Keep.data ro0)
  clear ro0
  have Hlo_rd0 := hide lo_rd0
  have Hhi_rd0 := hide hi_rd0
  clear lo_rd0 hi_rd0
  go_wp2_with fail
  refine (HhS.out _ r0_a0 r0_k0 _ _ HW.out Hrd0.out.here).mono ?_
  rintro e u2 ⟨rfl, hb⟩
  replace Hrd0 := hide (Hrd0.out.next hb)
  replace HW := hide (below_on HW.out hb)
  have z2 := hb.size
  clear hb
  clear Hrd0
  clear Hlo_rd0 Hhi_rd0
  have hal := (Below.refl (u2).heap.size (u2)).alloc (Nat.le_refl _) (.cells #[.int .i64 y0_0, .int .i64 y0_1, .int .i64 y0_2, .int .i64 y0_3, .int .i64 y0_4, .int .i64 y0_5, .int .i64 y0_6] 24)
  have hsz2 := World.size_alloc (u2) (.cells #[.int .i64 y0_0, .int .i64 y0_1, .int .i64 y0_2, .int .i64 y0_3, .int .i64 y0_4, .int .i64 y0_5, .int .i64 y0_6] 24)
  have Hpx0 := hide (Keep.new (u2) (.cells #[.int .i64 y0_0, .int .i64 y0_1, .int .i64 y0_2, .int .i64 y0_3, .int .i64 y0_4, .int .i64 y0_5, .int .i64 y0_6] 24))
  replace HW := hide (below_on HW.out hal)
  clear hal
  go_wp2_with fail
  generalize (u2).alloc (.cells #[.int .i64 y0_0, .int .i64 y0_1, .int .i64 y0_2, .int .i64 y0_3, .int .i64 y0_4, .int .i64 y0_5, .int .i64 y0_6] 24) = V3 at *
  have zz2 := HW.out.size
  refine (HhT0.out _ HW.out).mono ?_
  rintro e u4 ⟨s0_a0, s0_k0, sb0, rfl, so0, sn0, hb⟩
  have Hsn0 := hide sn0
  clear sn0
  replace Hpx0 := hide (Hpx0.out.next hb)
  replace HW := hide (below_on HW.out hb)
  have z3 := hb.size
  clear hb
  have lo_sd0 : ∀ b ∈ sb0, V3.heap.size ≤ b := fun b hb => (HoldsL.lt _ _ _ so0 b hb).1
  have hi_sd0 : ∀ b ∈ sb0, b < u4.heap.size := fun b hb => (HoldsL.lt _ _ _ so0 b hb).2
  have Hsd0 := hide (Keep.data so0)
  clear so0
  have Hlo_sd0 := hide lo_sd0
  have Hhi_sd0 := hide hi_sd0
  clear lo_sd0 hi_sd0
  go_wp2_with fail
  refine (HhI.out _ s0_a0 s0_k0 _ _ HW.out Hsd0.out.here).mono ?_
  rintro e u5 ⟨rfl, hb⟩
  replace Hpx0 := hide (Hpx0.out.next hb)
  replace Hsd0 := hide (Hsd0.out.next hb)
  replace HW := hide (below_on HW.out hb)
  have z4 := hb.size
  clear hb
  have hal := (Below.refl (u5).heap.size (u5)).alloc (Nat.le_refl _) (.cells #[.int .i64 y0_0, .int .i64 y0_1, .int .i64 y0_2, .int .i64 y0_3, .int .i64 y0_4, .int .i64 y0_5, .int .i64 y0_6] 24)
  have hsz4 := World.size_alloc (u5) (.cells #[.int .i64 y0_0, .int .i64 y0_1, .int .i64 y0_2, .int .i64 y0_3, .int .i64 y0_4, .int .i64 y0_5, .int .i64 y0_6] 24)
  have Hqx0 := hide (Keep.new (u5) (.cells #[.int .i64 y0_0, .int .i64 y0_1, .int .i64 y0_2, .int .i64 y0_3, .int .i64 y0_4, .int .i64 y0_5, .int .i64 y0_6] 24))
  replace Hpx0 := hide (Hpx0.out.next hal)
  replace Hsd0 := hide (Hsd0.out.next hal)
  replace HW := hide (below_on HW.out hal)
  clear hal
  have c_px0_0 : ((u5).alloc (.cells #[.int .i64 y0_0, .int .i64 y0_1, .int .i64 y0_2, .int .i64 y0_3, .int .i64 y0_4, .int .i64 y0_5, .int .i64 y0_6] 24)).cell? ⟨u2.heap.size, 0, none⟩ = some (.int .i64 y0_0) := cell_of_row _ _ 0 _ _ _ Hpx0.out.here
  have c_px0_1 : ((u5).alloc (.cells #[.int .i64 y0_0, .int .i64 y0_1, .int .i64 y0_2, .int .i64 y0_3, .int .i64 y0_4, .int .i64 y0_5, .int .i64 y0_6] 24)).cell? ⟨u2.heap.size, 1, none⟩ = some (.int .i64 y0_1) := cell_of_row _ _ 1 _ _ _ Hpx0.out.here
  have c_px0_2 : ((u5).alloc (.cells #[.int .i64 y0_0, .int .i64 y0_1, .int .i64 y0_2, .int .i64 y0_3, .int .i64 y0_4, .int .i64 y0_5, .int .i64 y0_6] 24)).cell? ⟨u2.heap.size, 2, none⟩ = some (.int .i64 y0_2) := cell_of_row _ _ 2 _ _ _ Hpx0.out.here
  have c_px0_3 : ((u5).alloc (.cells #[.int .i64 y0_0, .int .i64 y0_1, .int .i64 y0_2, .int .i64 y0_3, .int .i64 y0_4, .int .i64 y0_5, .int .i64 y0_6] 24)).cell? ⟨u2.heap.size, 3, none⟩ = some (.int .i64 y0_3) := cell_of_row _ _ 3 _ _ _ Hpx0.out.here
  have c_px0_4 : ((u5).alloc (.cells #[.int .i64 y0_0, .int .i64 y0_1, .int .i64 y0_2, .int .i64 y0_3, .int .i64 y0_4, .int .i64 y0_5, .int .i64 y0_6] 24)).cell? ⟨u2.heap.size, 4, none⟩ = some (.int .i64 y0_4) := cell_of_row _ _ 4 _ _ _ Hpx0.out.here
  have c_px0_5 : ((u5).alloc (.cells #[.int .i64 y0_0, .int .i64 y0_1, .int .i64 y0_2, .int .i64 y0_3, .int .i64 y0_4, .int .i64 y0_5, .int .i64 y0_6] 24)).cell? ⟨u2.heap.size, 5, none⟩ = some (.int .i64 y0_5) := cell_of_row _ _ 5 _ _ _ Hpx0.out.here
  have c_px0_6 : ((u5).alloc (.cells #[.int .i64 y0_0, .int .i64 y0_1, .int .i64 y0_2, .int .i64 y0_3, .int .i64 y0_4, .int .i64 y0_5, .int .i64 y0_6] 24)).cell? ⟨u2.heap.size, 6, none⟩ = some (.int .i64 y0_6) := cell_of_row _ _ 6 _ _ _ Hpx0.out.here
  have c_qx0_0 : ((u5).alloc (.cells #[.int .i64 y0_0, .int .i64 y0_1, .int .i64 y0_2, .int .i64 y0_3, .int .i64 y0_4, .int .i64 y0_5, .int .i64 y0_6] 24)).cell? ⟨u5.heap.size, 0, none⟩ = some (.int .i64 y0_0) := cell_of_row _ _ 0 _ _ _ Hqx0.out.here
  have c_qx0_1 : ((u5).alloc (.cells #[.int .i64 y0_0, .int .i64 y0_1, .int .i64 y0_2, .int .i64 y0_3, .int .i64 y0_4, .int .i64 y0_5, .int .i64 y0_6] 24)).cell? ⟨u5.heap.size, 1, none⟩ = some (.int .i64 y0_1) := cell_of_row _ _ 1 _ _ _ Hqx0.out.here
  have c_qx0_2 : ((u5).alloc (.cells #[.int .i64 y0_0, .int .i64 y0_1, .int .i64 y0_2, .int .i64 y0_3, .int .i64 y0_4, .int .i64 y0_5, .int .i64 y0_6] 24)).cell? ⟨u5.heap.size, 2, none⟩ = some (.int .i64 y0_2) := cell_of_row _ _ 2 _ _ _ Hqx0.out.here
  have c_qx0_3 : ((u5).alloc (.cells #[.int .i64 y0_0, .int .i64 y0_1, .int .i64 y0_2, .int .i64 y0_3, .int .i64 y0_4, .int .i64 y0_5, .int .i64 y0_6] 24)).cell? ⟨u5.heap.size, 3, none⟩ = some (.int .i64 y0_3) := cell_of_row _ _ 3 _ _ _ Hqx0.out.here
  have c_qx0_4 : ((u5).alloc (.cells #[.int .i64 y0_0, .int .i64 y0_1, .int .i64 y0_2, .int .i64 y0_3, .int .i64 y0_4, .int .i64 y0_5, .int .i64 y0_6] 24)).cell? ⟨u5.heap.size, 4, none⟩ = some (.int .i64 y0_4) := cell_of_row _ _ 4 _ _ _ Hqx0.out.here
  have c_qx0_5 : ((u5).alloc (.cells #[.int .i64 y0_0, .int .i64 y0_1, .int .i64 y0_2, .int .i64 y0_3, .int .i64 y0_4, .int .i64 y0_5, .int .i64 y0_6] 24)).cell? ⟨u5.heap.size, 5, none⟩ = some (.int .i64 y0_5) := cell_of_row _ _ 5 _ _ _ Hqx0.out.here
  have c_qx0_6 : ((u5).alloc (.cells #[.int .i64 y0_0, .int .i64 y0_1, .int .i64 y0_2, .int .i64 y0_3, .int .i64 y0_4, .int .i64 y0_5, .int .i64 y0_6] 24)).cell? ⟨u5.heap.size, 6, none⟩ = some (.int .i64 y0_6) := cell_of_row _ _ 6 _ _ _ Hqx0.out.here
  go_wp2_with fail
  generalize (u5).alloc (.cells #[.int .i64 y0_0, .int .i64 y0_1, .int .i64 y0_2, .int .i64 y0_3, .int .i64 y0_4, .int .i64 y0_5, .int .i64 y0_6] 24) = V6 at *
  clear c_px0_0 c_px0_1 c_px0_2 c_px0_3 c_px0_4 c_px0_5 c_px0_6 c_qx0_0 c_qx0_1 c_qx0_2 c_qx0_3 c_qx0_4 c_qx0_5 c_qx0_6
  refine (HhQ0.out _).mono ?_
  rintro e u7 ⟨rfl, hb⟩
  replace Hpx0 := hide (Hpx0.out.next hb)
  replace Hsd0 := hide (Hsd0.out.next hb)
  replace Hqx0 := hide (Hqx0.out.next hb)
  replace HW := hide (below_on HW.out hb)
  have z5 := hb.size
  clear hb
  go_wp2_with fail
  refine (HhT0.out _ HW.out).mono ?_
  rintro e u8 ⟨t0_a0, t0_k0, tb0, rfl, to0, tn0, hb⟩
  have Htn0 := hide tn0
  clear tn0
  replace Hpx0 := hide (Hpx0.out.next hb)
  replace Hsd0 := hide (Hsd0.out.next hb)
  replace Hqx0 := hide (Hqx0.out.next hb)
  replace HW := hide (below_on HW.out hb)
  have z6 := hb.size
  clear hb
  have lo_td0 : ∀ b ∈ tb0, u7.heap.size ≤ b := fun b hb => (HoldsL.lt _ _ _ to0 b hb).1
  have hi_td0 : ∀ b ∈ tb0, b < u8.heap.size := fun b hb => (HoldsL.lt _ _ _ to0 b hb).2
  have Htd0 := hide (Keep.data to0)
  clear to0
  have Hlo_td0 := hide lo_td0
  have Hhi_td0 := hide hi_td0
  clear lo_td0 hi_td0
  go_wp2_with fail
  refine (HhE0.out _ s0_a0 s0_k0 t0_a0 t0_k0 _ _ _ _ Hsd0.out.here Htd0.out.here).mono ?_
  rintro e u9 ⟨rfl, hb⟩
  replace Hpx0 := hide (Hpx0.out.next hb)
  replace Hsd0 := hide (Hsd0.out.next hb)
  replace Hqx0 := hide (Hqx0.out.next hb)
  replace Htd0 := hide (Htd0.out.next hb)
  replace HW := hide (below_on HW.out hb)
  have z7 := hb.size
  clear hb
  clear Htd0
  clear Hlo_td0 Hhi_td0
  go_wp2_with fail
  go_ret
  exact ⟨rfl, HW.out⟩
end Go.Proofs.YtakoagfeiolkjaaDoor
