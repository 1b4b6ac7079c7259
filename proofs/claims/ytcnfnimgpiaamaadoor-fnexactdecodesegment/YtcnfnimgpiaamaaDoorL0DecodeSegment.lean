/-
Contracts of functions of this seat.
-/
import Derived.Test.YtcnfnimgpiaamaaDoorRows
import Derived.WalkKit
import Derived.ProofKit
import Derived.OpenShut
import Derived.Test.YtcnfnimgpiaamaaDoorLkp
namespace Go.Proofs.YtcnfnimgpiaamaaDoor
open Go.ChangeShapes Go.WideShapes Go.ChangeAt Go.RowKit
set_option linter.unusedVariables false
set_option maxRecDepth 100000
set_option maxHeartbeats 8000000 in
set_option maxRecDepth 100000 in
theorem walkDecodeSegment0 (w : World) (o0_a0 : Option Addr) (n0_0 o0_k0 : Nat) (ds0 : List D) (m1 : Int) (m2 : Int) (y0_0 : Int) (y0_1 : Int) (y0_2 : Int) (y0_3 : Int) (y0_4 : Int) (y0_5 : Int) (y0_6 : Int) (y0_7 : Bool) (y0_8 : Int) (y0_9 : Bool) (N0_0 : Nat) (N0_1 : Nat) (rs0 ms0 : List D) (C1 : Int) (hlen : (n0_0 : Int) ≤ 1048576) (hT0 : ∀ (W : World), Below w.heap.size w W → Calls Tryd.prog 13 #[.slice o0_a0 n0_0 o0_k0] W fun e w' => ∃ (c0_a0 : Option Addr) (c0_k0 : Nat) (bs : List Nat), e = .returned (.slice c0_a0 n0_0 c0_k0) ∧ HoldsL w' W.heap.size ds0 [.slice c0_a0 n0_0 c0_k0] bs ∧ bs.Nodup ∧ Below W.heap.size W w') (hS : ∀ (W : World) (c0_a0 : Option Addr) (c0_k0 : Nat) (B0 : Nat) (bs0 : List Nat), Below w.heap.size w W → HoldsL W B0 ds0 [.slice c0_a0 n0_0 c0_k0] bs0 → Calls Tryd.prog 12 #[.slice c0_a0 n0_0 c0_k0, .int .i64 m1, .int .i64 m2] W fun e w' => ∃ (d0_a0 : Option Addr) (d0_k0 : Nat) (d0_a1 : Option Addr) (d0_k1 : Nat) (fs0 : List Nat), e = .returned (.tuple #[.agg #[.int .i64 y0_0, .int .i64 y0_1, .int .i64 y0_2, .int .i64 y0_3, .int .i64 y0_4, .int .i64 y0_5, .int .i64 y0_6, .bool y0_7, .int .i64 y0_8, .bool y0_9, .slice d0_a0 N0_0 d0_k0, .slice d0_a1 N0_1 d0_k1], .int .i64 C1]) ∧ HoldsL w' W.heap.size rs0 [.slice d0_a0 N0_0 d0_k0, .slice d0_a1 N0_1 d0_k1] fs0 ∧ (fs0).Nodup ∧ Below W.heap.size W w') (hI : ∀ (W : World) (c0_a0 : Option Addr) (c0_k0 : Nat) (B0 : Nat) (bs0 : List Nat), Below w.heap.size w W → HoldsL W B0 ds0 [.slice c0_a0 n0_0 c0_k0] bs0 → Calls Tryd.prog 14 #[.slice c0_a0 n0_0 c0_k0, .int .i64 m1, .int .i64 m2] W fun e w' => ∃ (d0_a0 : Option Addr) (d0_k0 : Nat) (d0_a1 : Option Addr) (d0_k1 : Nat) (fs0 : List Nat), e = .returned (.tuple #[.agg #[.int .i64 y0_0, .int .i64 y0_1, .int .i64 y0_2, .int .i64 y0_3, .int .i64 y0_4, .int .i64 y0_5, .int .i64 y0_6, .bool y0_7, .int .i64 y0_8, .bool y0_9, .slice d0_a0 N0_0 d0_k0, .slice d0_a1 N0_1 d0_k1], .int .i64 C1]) ∧ HoldsL w' W.heap.size rs0 [.slice d0_a0 N0_0 d0_k0, .slice d0_a1 N0_1 d0_k1] fs0 ∧ (fs0).Nodup ∧ Below W.heap.size W w') (hE0 : ∀ (W : World) (c0_a0 : Option Addr) (c0_k0 : Nat) (e0_a0 : Option Addr) (e0_k0 : Nat) (B1 B2 : Nat) (b1 b2 : List Nat), HoldsL W B1 ds0 [.slice c0_a0 n0_0 c0_k0] b1 → HoldsL W B2 ds0 [.slice e0_a0 n0_0 e0_k0] b2 → Calls Tryd.prog 15 #[.slice c0_a0 n0_0 c0_k0, .slice e0_a0 n0_0 e0_k0] W fun e w' => e = .returned (.bool true) ∧ Below W.heap.size W w') (hQ0 : ∀ (W : World) (c0_a0 : Option Addr) (c0_k0 : Nat) (c0_a1 : Option Addr) (c0_k1 : Nat) (e0_a0 : Option Addr) (e0_k0 : Nat) (e0_a1 : Option Addr) (e0_k1 : Nat) (B1 B2 : Nat) (b1 b2 : List Nat), HoldsL W B1 rs0 [.slice c0_a0 N0_0 c0_k0, .slice c0_a1 N0_1 c0_k1] b1 → HoldsL W B2 rs0 [.slice e0_a0 N0_0 e0_k0, .slice e0_a1 N0_1 e0_k1] b2 → Calls Tryd.prog 11 #[.agg #[.int .i64 y0_0, .int .i64 y0_1, .int .i64 y0_2, .int .i64 y0_3, .int .i64 y0_4, .int .i64 y0_5, .int .i64 y0_6, .bool y0_7, .int .i64 y0_8, .bool y0_9, .slice c0_a0 N0_0 c0_k0, .slice c0_a1 N0_1 c0_k1], .agg #[.int .i64 y0_0, .int .i64 y0_1, .int .i64 y0_2, .int .i64 y0_3, .int .i64 y0_4, .int .i64 y0_5, .int .i64 y0_6, .bool y0_7, .int .i64 y0_8, .bool y0_9, .slice e0_a0 N0_0 e0_k0, .slice e0_a1 N0_1 e0_k1]] W fun e w' => e = .returned (.bool true) ∧ Below W.heap.size W w') (k0 : Int) (hk0 : 0 ≤ k0) (hM0 : ∀ (W : World) (c0_a0 : Option Addr) (c0_k0 : Nat) (B : Nat) (bs : List Nat), HoldsL W B ds0 [.slice c0_a0 n0_0 c0_k0] bs → bs.Nodup → Calls Tryd.prog 16 #[.slice c0_a0 n0_0 c0_k0, .int .i64 1] W fun e w' => e = .returned (.int .i64 k0) ∧ Only bs W w') (q0 : Int) (hq0 : 0 ≤ q0) (hN0 : ∀ (W : World) (c0_a0 : Option Addr) (c0_k0 : Nat) (c0_a1 : Option Addr) (c0_k1 : Nat) (B : Nat) (bs : List Nat), HoldsL W B rs0 [.slice c0_a0 N0_0 c0_k0, .slice c0_a1 N0_1 c0_k1] bs → bs.Nodup → Calls Tryd.prog 17 #[.agg #[.int .i64 y0_0, .int .i64 y0_1, .int .i64 y0_2, .int .i64 y0_3, .int .i64 y0_4, .int .i64 y0_5, .int .i64 y0_6, .bool y0_7, .int .i64 y0_8, .bool y0_9, .slice c0_a0 N0_0 c0_k0, .slice c0_a1 N0_1 c0_k1], .int .i64 1] W fun e w' => e = .returned (.int .i64 q0) ∧ HoldsL w' B ms0 [.slice c0_a0 N0_0 c0_k0, .slice c0_a1 N0_1 c0_k1] bs ∧ Only bs W w') (hH0 : ∀ (W : World) (c0_a0 : Option Addr) (c0_k0 : Nat) (c0_a1 : Option Addr) (c0_k1 : Nat) (B : Nat) (bs : List Nat), HoldsL W B ms0 [.slice c0_a0 N0_0 c0_k0, .slice c0_a1 N0_1 c0_k1] bs → Calls Tryd.prog 18 #[.agg #[.int .i64 y0_0, .int .i64 y0_1, .int .i64 y0_2, .int .i64 y0_3, .int .i64 y0_4, .int .i64 y0_5, .int .i64 y0_6, .bool y0_7, .int .i64 y0_8, .bool y0_9, .slice c0_a0 N0_0 c0_k0, .slice c0_a1 N0_1 c0_k1], .int .i64 1] W fun e w' => e = .returned (.int .i64 q0) ∧ Below W.heap.size W w') :
    Calls Tryd.prog 4 #[.slice o0_a0 n0_0 o0_k0, .int .i64 m1, .int .i64 m2] w fun e w' => e = .returned (.bool true) ∧ Below w.heap.size w w' := by
  have HhT0 := hide hT0
  have HhS := hide hS
  have HhI := hide hI
  have HhE0 := hide hE0
  have HhQ0 := hide hQ0
  have HhM0 := hide hM0
  have HhN0 := hide hN0
  have HhH0 := hide hH0
  clear hT0 hS hI hE0 hQ0 hM0 hN0 hH0
  have HW := hide (Below.refl w.heap.size w)
  go_enter Tryd.func4, Tryd.ntmps4
  go_wp2_with fail
  have z0 : w.heap.size ≤ w.heap.size := Nat.le_refl _
  refine (HhT0.out _ HW.out).mono ?_
  rintro e u1 ⟨r0_a0, r0_k0, rb0, rfl, ro0, rn0, hb⟩
  have Hrn0 := hide rn0
  clear rn0
  replace HW := hide (below_on HW.out hb)
  have z1 := hb.size
  clear hb
  have lo_rd0 : ∀ b ∈ rb0, w.heap.size ≤ b := fun b hb => (HoldsL.lt _ _ _ ro0 b hb).1
  have hi_rd0 : ∀ b ∈ rb0, b < u1.heap.size := fun b hb => (HoldsL.lt _ _ _ ro0 b hb).2
  have Hrd0 := hide (Keep.data ro0)
  clear ro0
  have Hlo_rd0 := hide lo_rd0
  have Hhi_rd0 := hide hi_rd0
  clear lo_rd0 hi_rd0
  go_wp2_with fail
  refine (HhS.out _ r0_a0 r0_k0 _ _ HW.out Hrd0.out.here).mono ?_
  rintro e u2 ⟨p0_a0, p0_k0, p0_a1, p0_k1, pf0, rfl, po0, pn, hb⟩
  have Hpn := hide pn
  clear pn
  replace Hrd0 := hide (Hrd0.out.next hb)
  replace HW := hide (below_on HW.out hb)
  have z2 := hb.size
  clear hb
  have lo_pd0 : ∀ b ∈ pf0, u1.heap.size ≤ b := fun b hb => (HoldsL.lt _ _ _ po0 b hb).1
  have hi_pd0 : ∀ b ∈ pf0, b < u2.heap.size := fun b hb => (HoldsL.lt _ _ _ po0 b hb).2
  have Hpd0 := hide (Keep.data po0)
  clear po0
  have Hlo_pd0 := hide lo_pd0
  have Hhi_pd0 := hide hi_pd0
  clear lo_pd0 hi_pd0
  clear Hrd0
  clear Hlo_rd0 Hhi_rd0
  have hal := (Below.refl (u2).heap.size (u2)).alloc (Nat.le_refl _) (.cells #[.int .i64 y0_0, .int .i64 y0_1, .int .i64 y0_2, .int .i64 y0_3, .int .i64 y0_4, .int .i64 y0_5, .int .i64 y0_6, .bool y0_7, .int .i64 y0_8, .bool y0_9, .slice p0_a0 N0_0 p0_k0, .slice p0_a1 N0_1 p0_k1] 31)
  have hsz2 := World.size_alloc (u2) (.cells #[.int .i64 y0_0, .int .i64 y0_1, .int .i64 y0_2, .int .i64 y0_3, .int .i64 y0_4, .int .i64 y0_5, .int .i64 y0_6, .bool y0_7, .int .i64 y0_8, .bool y0_9, .slice p0_a0 N0_0 p0_k0, .slice p0_a1 N0_1 p0_k1] 31)
  have Hpx0 := hide (Keep.new (u2) (.cells #[.int .i64 y0_0, .int .i64 y0_1, .int .i64 y0_2, .int .i64 y0_3, .int .i64 y0_4, .int .i64 y0_5, .int .i64 y0_6, .bool y0_7, .int .i64 y0_8, .bool y0_9, .slice p0_a0 N0_0 p0_k0, .slice p0_a1 N0_1 p0_k1] 31))
  replace Hpd0 := hide (Hpd0.out.next hal)
  replace HW := hide (below_on HW.out hal)
  clear hal
  go_wp2_with fail
  generalize (u2).alloc (.cells #[.int .i64 y0_0, .int .i64 y0_1, .int .i64 y0_2, .int .i64 y0_3, .int .i64 y0_4, .int .i64 y0_5, .int .i64 y0_6, .bool y0_7, .int .i64 y0_8, .bool y0_9, .slice p0_a0 N0_0 p0_k0, .slice p0_a1 N0_1 p0_k1] 31) = V3 at *
  have zz2 := HW.out.size
  refine (HhT0.out _ HW.out).mono ?_
  rintro e u4 ⟨s0_a0, s0_k0, sb0, rfl, so0, sn0, hb⟩
  have Hsn0 := hide sn0
  clear sn0
  replace Hpd0 := hide (Hpd0.out.next hb)
  replace Hpx0 := hide (Hpx0.out.next hb)
  replace HW := hide (below_on HW.out hb)
  have z3 := hb.size
  clear hb
  have lo_sd0 : ∀ b ∈ sb0, V3.heap.size ≤ b := fun b hb => (HoldsL.lt _ _ _ so0 b hb).1
  have hi_sd0 : ∀ b ∈ sb0, b < u4.heap.size := fun b hb => (HoldsL.lt _ _ _ so0 b hb).2
  have Hsd0 := hide (Keep.data so0)
  clear so0
  have Hlo_sd0 := hide lo_sd0
  have Hhi_sd0 := hide hi_sd0
  clear lo_sd0 hi_sd0
  go_wp2_with fail
  refine (HhI.out _ s0_a0 s0_k0 _ _ HW.out Hsd0.out.here).mono ?_
  rintro e u5 ⟨q0_a0, q0_k0, q0_a1, q0_k1, qf0, rfl, qo0, qn, hb⟩
  have Hqn := hide qn
  clear qn
  replace Hpd0 := hide (Hpd0.out.next hb)
  replace Hpx0 := hide (Hpx0.out.next hb)
  replace Hsd0 := hide (Hsd0.out.next hb)
  replace HW := hide (below_on HW.out hb)
  have z4 := hb.size
  clear hb
  have lo_qd0 : ∀ b ∈ qf0, u4.heap.size ≤ b := fun b hb => (HoldsL.lt _ _ _ qo0 b hb).1
  have hi_qd0 : ∀ b ∈ qf0, b < u5.heap.size := fun b hb => (HoldsL.lt _ _ _ qo0 b hb).2
  have Hqd0 := hide (Keep.data qo0)
  clear qo0
  have Hlo_qd0 := hide lo_qd0
  have Hhi_qd0 := hide hi_qd0
  clear lo_qd0 hi_qd0
  have hal := (Below.refl (u5).heap.size (u5)).alloc (Nat.le_refl _) (.cells #[.int .i64 y0_0, .int .i64 y0_1, .int .i64 y0_2, .int .i64 y0_3, .int .i64 y0_4, .int .i64 y0_5, .int .i64 y0_6, .bool y0_7, .int .i64 y0_8, .bool y0_9, .slice q0_a0 N0_0 q0_k0, .slice q0_a1 N0_1 q0_k1] 31)
  have hsz4 := World.size_alloc (u5) (.cells #[.int .i64 y0_0, .int .i64 y0_1, .int .i64 y0_2, .int .i64 y0_3, .int .i64 y0_4, .int .i64 y0_5, .int .i64 y0_6, .bool y0_7, .int .i64 y0_8, .bool y0_9, .slice q0_a0 N0_0 q0_k0, .slice q0_a1 N0_1 q0_k1] 31)
  have Hqx0 := hide (Keep.new (u5) (.cells #[.int .i64 y0_0, .int .i64 y0_1, .int .i64 y0_2, .int .i64 y0_3, .int .i64 y0_4, .int .i64 y0_5, .int .i64 y0_6, .bool y0_7, .int .i64 y0_8, .bool y0_9, .slice q0_a0 N0_0 q0_k0, .slice q0_a1 N0_1 q0_k1] 31))
  replace Hpd0 := hide (Hpd0.out.next hal)
  replace Hpx0 := hide (Hpx0.out.next hal)
  replace Hsd0 := hide (Hsd0.out.next hal)
  replace Hqd0 := hide (Hqd0.out.next hal)
  replace HW := hide (below_on HW.out hal)
  clear hal
  have c_px0_0 : ((u5).alloc (.cells #[.int .i64 y0_0, .int .i64 y0_1, .int .i64 y0_2, .int .i64 y0_3, .int .i64 y0_4, .int .i64 y0_5, .int .i64 y0_6, .bool y0_7, .int .i64 y0_8, .bool y0_9, .slice q0_a0 N0_0 q0_k0, .slice q0_a1 N0_1 q0_k1] 31)).cell? ⟨u2.heap.size, 0, none⟩ = some (.int .i64 y0_0) := cell_of_row _ _ 0 _ _ _ Hpx0.out.here
  have c_px0_1 : ((u5).alloc (.cells #[.int .i64 y0_0, .int .i64 y0_1, .int .i64 y0_2, .int .i64 y0_3, .int .i64 y0_4, .int .i64 y0_5, .int .i64 y0_6, .bool y0_7, .int .i64 y0_8, .bool y0_9, .slice q0_a0 N0_0 q0_k0, .slice q0_a1 N0_1 q0_k1] 31)).cell? ⟨u2.heap.size, 1, none⟩ = some (.int .i64 y0_1) := cell_of_row _ _ 1 _ _ _ Hpx0.out.here
  have c_px0_2 : ((u5).alloc (.cells #[.int .i64 y0_0, .int .i64 y0_1, .int .i64 y0_2, .int .i64 y0_3, .int .i64 y0_4, .int .i64 y0_5, .int .i64 y0_6, .bool y0_7, .int .i64 y0_8, .bool y0_9, .slice q0_a0 N0_0 q0_k0, .slice q0_a1 N0_1 q0_k1] 31)).cell? ⟨u2.heap.size, 2, none⟩ = some (.int .i64 y0_2) := cell_of_row _ _ 2 _ _ _ Hpx0.out.here
  have c_px0_3 : ((u5).alloc (.cells #[.int .i64 y0_0, .int .i64 y0_1, .int .i64 y0_2, .int .i64 y0_3, .int .i64 y0_4, .int .i64 y0_5, .int .i64 y0_6, .bool y0_7, .int .i64 y0_8, .bool y0_9, .slice q0_a0 N0_0 q0_k0, .slice q0_a1 N0_1 q0_k1] 31)).cell? ⟨u2.heap.size, 3, none⟩ = some (.int .i64 y0_3) := cell_of_row _ _ 3 _ _ _ Hpx0.out.here
  have c_px0_4 : ((u5).alloc (.cells #[.int .i64 y0_0, .int .i64 y0_1, .int .i64 y0_2, .int .i64 y0_3, .int .i64 y0_4, .int .i64 y0_5, .int .i64 y0_6, .bool y0_7, .int .i64 y0_8, .bool y0_9, .slice q0_a0 N0_0 q0_k0, .slice q0_a1 N0_1 q0_k1] 31)).cell? ⟨u2.heap.size, 4, none⟩ = some (.int .i64 y0_4) := cell_of_row _ _ 4 _ _ _ Hpx0.out.here
  have c_px0_5 : ((u5).alloc (.cells #[.int .i64 y0_0, .int .i64 y0_1, .int .i64 y0_2, .int .i64 y0_3, .int .i64 y0_4, .int .i64 y0_5, .int .i64 y0_6, .bool y0_7, .int .i64 y0_8, .bool y0_9, .slice q0_a0 N0_0 q0_k0, .slice q0_a1 N0_1 q0_k1] 31)).cell? ⟨u2.heap.size, 5, none⟩ = some (.int .i64 y0_5) := cell_of_row _ _ 5 _ _ _ Hpx0.out.here
  have c_px0_6 : ((u5).alloc (.cells #[.int .i64 y0_0, .int .i64 y0_1, .int .i64 y0_2, .int .i64 y0_3, .int .i64 y0_4, .int .i64 y0_5, .int .i64 y0_6, .bool y0_7, .int .i64 y0_8, .bool y0_9, .slice q0_a0 N0_0 q0_k0, .slice q0_a1 N0_1 q0_k1] 31)).cell? ⟨u2.heap.size, 6, none⟩ = some (.int .i64 y0_6) := cell_of_row _ _ 6 _ _ _ Hpx0.out.here
  have c_px0_7 : ((u5).alloc (.cells #[.int .i64 y0_0, .int .i64 y0_1, .int .i64 y0_2, .int .i64 y0_3, .int .i64 y0_4, .int .i64 y0_5, .int .i64 y0_6, .bool y0_7, .int .i64 y0_8, .bool y0_9, .slice q0_a0 N0_0 q0_k0, .slice q0_a1 N0_1 q0_k1] 31)).cell? ⟨u2.heap.size, 7, none⟩ = some (.bool y0_7) := cell_of_row _ _ 7 _ _ _ Hpx0.out.here
  have c_px0_8 : ((u5).alloc (.cells #[.int .i64 y0_0, .int .i64 y0_1, .int .i64 y0_2, .int .i64 y0_3, .int .i64 y0_4, .int .i64 y0_5, .int .i64 y0_6, .bool y0_7, .int .i64 y0_8, .bool y0_9, .slice q0_a0 N0_0 q0_k0, .slice q0_a1 N0_1 q0_k1] 31)).cell? ⟨u2.heap.size, 8, none⟩ = some (.int .i64 y0_8) := cell_of_row _ _ 8 _ _ _ Hpx0.out.here
  have c_px0_9 : ((u5).alloc (.cells #[.int .i64 y0_0, .int .i64 y0_1, .int .i64 y0_2, .int .i64 y0_3, .int .i64 y0_4, .int .i64 y0_5, .int .i64 y0_6, .bool y0_7, .int .i64 y0_8, .bool y0_9, .slice q0_a0 N0_0 q0_k0, .slice q0_a1 N0_1 q0_k1] 31)).cell? ⟨u2.heap.size, 9, none⟩ = some (.bool y0_9) := cell_of_row _ _ 9 _ _ _ Hpx0.out.here
  have c_px0_10 : ((u5).alloc (.cells #[.int .i64 y0_0, .int .i64 y0_1, .int .i64 y0_2, .int .i64 y0_3, .int .i64 y0_4, .int .i64 y0_5, .int .i64 y0_6, .bool y0_7, .int .i64 y0_8, .bool y0_9, .slice q0_a0 N0_0 q0_k0, .slice q0_a1 N0_1 q0_k1] 31)).cell? ⟨u2.heap.size, 10, none⟩ = some (.slice p0_a0 N0_0 p0_k0) := cell_of_row _ _ 10 _ _ _ Hpx0.out.here
  have c_px0_11 : ((u5).alloc (.cells #[.int .i64 y0_0, .int .i64 y0_1, .int .i64 y0_2, .int .i64 y0_3, .int .i64 y0_4, .int .i64 y0_5, .int .i64 y0_6, .bool y0_7, .int .i64 y0_8, .bool y0_9, .slice q0_a0 N0_0 q0_k0, .slice q0_a1 N0_1 q0_k1] 31)).cell? ⟨u2.heap.size, 11, none⟩ = some (.slice p0_a1 N0_1 p0_k1) := cell_of_row _ _ 11 _ _ _ Hpx0.out.here
  have c_qx0_0 : ((u5).alloc (.cells #[.int .i64 y0_0, .int .i64 y0_1, .int .i64 y0_2, .int .i64 y0_3, .int .i64 y0_4, .int .i64 y0_5, .int .i64 y0_6, .bool y0_7, .int .i64 y0_8, .bool y0_9, .slice q0_a0 N0_0 q0_k0, .slice q0_a1 N0_1 q0_k1] 31)).cell? ⟨u5.heap.size, 0, none⟩ = some (.int .i64 y0_0) := cell_of_row _ _ 0 _ _ _ Hqx0.out.here
  have c_qx0_1 : ((u5).alloc (.cells #[.int .i64 y0_0, .int .i64 y0_1, .int .i64 y0_2, .int .i64 y0_3, .int .i64 y0_4, .int .i64 y0_5, .int .i64 y0_6, .bool y0_7, .int .i64 y0_8, .bool y0_9, .slice q0_a0 N0_0 q0_k0, .slice q0_a1 N0_1 q0_k1] 31)).cell? ⟨u5.heap.size, 1, none⟩ = some (.int .i64 y0_1) := cell_of_row _ _ 1 _ _ _ Hqx0.out.here
  have c_qx0_2 : ((u5).alloc (.cells #[.int .i64 y0_0, .int .i64 y0_1, .int .i64 y0_2, .int .i64 y0_3, .int .i64 y0_4, .int .i64 y0_5, .int .i64 y0_6, .bool y0_7, .int .i64 y0_8, .bool y0_9, .slice q0_a0 N0_0 q0_k0, .slice q0_a1 N0_1 q0_k1] 31)).cell? ⟨u5.heap.size, 2, none⟩ = some (.int .i64 y0_2) := cell_of_row _ _ 2 _ _ _ Hqx0.out.here
  have c_qx0_3 : ((u5).alloc (.cells #[.int .i64 y0_0, .int .i64 y0_1, .int .i64 y0_2, .int .i64 y0_3, .int .i64 y0_4, .int .i64 y0_5, .int .i64 y0_6, .bool y0_7, .int .i64 y0_8, .bool y0_9, .slice q0_a0 N0_0 q0_k0, .slice q0_a1 N0_1 q0_k1] 31)).cell? ⟨u5.heap.size, 3, none⟩ = some (.int .i64 y0_3) := cell_of_row _ _ 3 _ _ _ Hqx0.out.here
  have c_qx0_4 : ((u5).alloc (.cells #[.int .i64 y0_0, .int .i64 y0_1, .int .i64 y0_2, .int .i64 y0_3, .int .i64 y0_4, .int .i64 y0_5, .int .i64 y0_6, .bool y0_7, .int .i64 y0_8, .bool y0_9, .slice q0_a0 N0_0 q0_k0, .slice q0_a1 N0_1 q0_k1] 31)).cell? ⟨u5.heap.size, 4, none⟩ = some (.int .i64 y0_4) := cell_of_row _ _ 4 _ _ _ Hqx0.out.here
  have c_qx0_5 : ((u5).alloc (.cells #[.int .i64 y0_0, .int .i64 y0_1, .int .i64 y0_2, .int .i64 y0_3, .int .i64 y0_4, .int .i64 y0_5, .int .i64 y0_6, .bool y0_7, .int .i64 y0_8, .bool y0_9, .slice q0_a0 N0_0 q0_k0, .slice q0_a1 N0_1 q0_k1] 31)).cell? ⟨u5.heap.size, 5, none⟩ = some (.int .i64 y0_5) := cell_of_row _ _ 5 _ _ _ Hqx0.out.here
  have c_qx0_6 : ((u5).alloc (.cells #[.int .i64 y0_0, .int .i64 y0_1, .int .i64 y0_2, .int .i64 y0_3, .int .i64 y0_4, .int .i64 y0_5, .int .i64 y0_6, .bool y0_7, .int .i64 y0_8, .bool y0_9, .slice q0_a0 N0_0 q0_k0, .slice q0_a1 N0_1 q0_k1] 31)).cell? ⟨u5.heap.size, 6, none⟩ = some (.int .i64 y0_6) := cell_of_row _ _ 6 _ _ _ Hqx0.out.here
  have c_qx0_7 : ((u5).alloc (.cells #[.int .i64 y0_0, .int .i64 y0_1, .int .i64 y0_2, .int .i64 y0_3, .int .i64 y0_4, .int .i64 y0_5, .int .i64 y0_6, .bool y0_7, .int .i64 y0_8, .bool y0_9, .slice q0_a0 N0_0 q0_k0, .slice q0_a1 N0_1 q0_k1] 31)).cell? ⟨u5.heap.size, 7, none⟩ = some (.bool y0_7) := cell_of_row _ _ 7 _ _ _ Hqx0.out.here
  have c_qx0_8 : ((u5).alloc (.cells #[.int .i64 y0_0, .int .i64 y0_1, .int .i64 y0_2, .int .i64 y0_3, .int .i64 y0_4, .int .i64 y0_5, .int .i64 y0_6, .bool y0_7, .int .i64 y0_8, .bool y0_9, .slice q0_a0 N0_0 q0_k0, .slice q0_a1 N0_1 q0_k1] 31)).cell? ⟨u5.heap.size, 8, none⟩ = some (.int .i64 y0_8) := cell_of_row _ _ 8 _ _ _ Hqx0.out.here
  have c_qx0_9 : ((u5).alloc (.cells #[.int .i64 y0_0, .int .i64 y0_1, .int .i64 y0_2, .int .i64 y0_3, .int .i64 y0_4, .int .i64 y0_5, .int .i64 y0_6, .bool y0_7, .int .i64 y0_8, .bool y0_9, .slice q0_a0 N0_0 q0_k0, .slice q0_a1 N0_1 q0_k1] 31)).cell? ⟨u5.heap.size, 9, none⟩ = some (.bool y0_9) := cell_of_row _ _ 9 _ _ _ Hqx0.out.here
  have c_qx0_10 : ((u5).alloc (.cells #[.int .i64 y0_0, .int .i64 y0_1, .int .i64 y0_2, .int .i64 y0_3, .int .i64 y0_4, .int .i64 y0_5, .int .i64 y0_6, .bool y0_7, .int .i64 y0_8, .bool y0_9, .slice q0_a0 N0_0 q0_k0, .slice q0_a1 N0_1 q0_k1] 31)).cell? ⟨u5.heap.size, 10, none⟩ = some (.slice q0_a0 N0_0 q0_k0) := cell_of_row _ _ 10 _ _ _ Hqx0.out.here
  have c_qx0_11 : ((u5).alloc (.cells #[.int .i64 y0_0, .int .i64 y0_1, .int .i64 y0_2, .int .i64 y0_3, .int .i64 y0_4, .int .i64 y0_5, .int .i64 y0_6, .bool y0_7, .int .i64 y0_8, .bool y0_9, .slice q0_a0 N0_0 q0_k0, .slice q0_a1 N0_1 q0_k1] 31)).cell? ⟨u5.heap.size, 11, none⟩ = some (.slice q0_a1 N0_1 q0_k1) := cell_of_row _ _ 11 _ _ _ Hqx0.out.here
  go_wp2_with fail
  generalize (u5).alloc (.cells #[.int .i64 y0_0, .int .i64 y0_1, .int .i64 y0_2, .int .i64 y0_3, .int .i64 y0_4, .int .i64 y0_5, .int .i64 y0_6, .bool y0_7, .int .i64 y0_8, .bool y0_9, .slice q0_a0 N0_0 q0_k0, .slice q0_a1 N0_1 q0_k1] 31) = V6 at *
  clear c_px0_0 c_px0_1 c_px0_2 c_px0_3 c_px0_4 c_px0_5 c_px0_6 c_px0_7 c_px0_8 c_px0_9 c_px0_10 c_px0_11 c_qx0_0 c_qx0_1 c_qx0_2 c_qx0_3 c_qx0_4 c_qx0_5 c_qx0_6 c_qx0_7 c_qx0_8 c_qx0_9 c_qx0_10 c_qx0_11
  refine (HhQ0.out _ q0_a0 q0_k0 q0_a1 q0_k1 p0_a0 p0_k0 p0_a1 p0_k1 _ _ _ _ Hqd0.out.here Hpd0.out.here).mono ?_
  rintro e u7 ⟨rfl, hb⟩
  replace Hpd0 := hide (Hpd0.out.next hb)
  replace Hpx0 := hide (Hpx0.out.next hb)
  replace Hsd0 := hide (Hsd0.out.next hb)
  replace Hqd0 := hide (Hqd0.out.next hb)
  replace Hqx0 := hide (Hqx0.out.next hb)
  replace HW := hide (below_on HW.out hb)
  have z5 := hb.size
  clear hb
  go_wp2_with fail
  refine (HhT0.out _ HW.out).mono ?_
  rintro e u8 ⟨t0_a0, t0_k0, tb0, rfl, to0, tn0, hb⟩
  have Htn0 := hide tn0
  clear tn0
  replace Hpd0 := hide (Hpd0.out.next hb)
  replace Hpx0 := hide (Hpx0.out.next hb)
  replace Hsd0 := hide (Hsd0.out.next hb)
  replace Hqd0 := hide (Hqd0.out.next hb)
  replace Hqx0 := hide (Hqx0.out.next hb)
  replace HW := hide (below_on HW.out hb)
  have z6 := hb.size
  clear hb
  have lo_td0 : ∀ b ∈ tb0, u7.heap.size ≤ b := fun b hb => (HoldsL.lt _ _ _ to0 b hb).1
  have hi_td0 : ∀ b ∈ tb0, b < u8.heap.size := fun b hb => (HoldsL.lt _ _ _ to0 b hb).2
  have Htd0 := hide (Keep.data to0)
  clear to0
  have Hlo_td0 := hide lo_td0
  have Hhi_td0 := hide hi_td0
  clear lo_td0 hi_td0
  go_wp2_with fail
  refine (HhE0.out _ s0_a0 s0_k0 t0_a0 t0_k0 _ _ _ _ Hsd0.out.here Htd0.out.here).mono ?_
  rintro e u9 ⟨rfl, hb⟩
  replace Hpd0 := hide (Hpd0.out.next hb)
  replace Hpx0 := hide (Hpx0.out.next hb)
  replace Hsd0 := hide (Hsd0.out.next hb)
  replace Hqd0 := hide (Hqd0.out.next hb)
  replace Hqx0 := hide (Hqx0.out.next hb)
  replace Htd0 := hide (Htd0.out.next hb)
  replace HW := hide (below_on HW.out hb)
  have z7 := hb.size
  clear hb
  clear Htd0
  clear Hlo_td0 Hhi_td0
  go_wp2_with fail
  refine (HhM0.out _ s0_a0 s0_k0 _ _ Hsd0.out.here Hsn0.out).mono ?_
  rintro e u10 ⟨rfl, hon⟩
  replace Hpd0 := hide (Hpd0.out.only hon (fun b hb hm => by have h1 := Hlo_pd0.out b hb; have h2 := Hhi_pd0.out b hb; have h3 := Hlo_sd0.out b hm; have h4 := Hhi_sd0.out b hm; omega))
  replace Hpx0 := hide (Hpx0.out.only hon (fun b hb hm => by have h1 := List.mem_singleton.1 hb; have h3 := Hlo_sd0.out b hm; have h4 := Hhi_sd0.out b hm; omega))
  replace Hqd0 := hide (Hqd0.out.only hon (fun b hb hm => by have h1 := Hlo_qd0.out b hb; have h2 := Hhi_qd0.out b hb; have h3 := Hlo_sd0.out b hm; have h4 := Hhi_sd0.out b hm; omega))
  replace Hqx0 := hide (Hqx0.out.only hon (fun b hb hm => by have h1 := List.mem_singleton.1 hb; have h3 := Hlo_sd0.out b hm; have h4 := Hhi_sd0.out b hm; omega))
  replace HW := hide (below_only HW.out hon (fun b hb => by have h1 := Hlo_sd0.out b hb; omega))
  have z8 := hon.size
  clear hon
  clear Hsd0
  clear Hlo_sd0 Hhi_sd0
  have c_px0_0 : (u10).cell? ⟨u2.heap.size, 0, none⟩ = some (.int .i64 y0_0) := cell_of_row _ _ 0 _ _ _ Hpx0.out.here
  have c_px0_1 : (u10).cell? ⟨u2.heap.size, 1, none⟩ = some (.int .i64 y0_1) := cell_of_row _ _ 1 _ _ _ Hpx0.out.here
  have c_px0_2 : (u10).cell? ⟨u2.heap.size, 2, none⟩ = some (.int .i64 y0_2) := cell_of_row _ _ 2 _ _ _ Hpx0.out.here
  have c_px0_3 : (u10).cell? ⟨u2.heap.size, 3, none⟩ = some (.int .i64 y0_3) := cell_of_row _ _ 3 _ _ _ Hpx0.out.here
  have c_px0_4 : (u10).cell? ⟨u2.heap.size, 4, none⟩ = some (.int .i64 y0_4) := cell_of_row _ _ 4 _ _ _ Hpx0.out.here
  have c_px0_5 : (u10).cell? ⟨u2.heap.size, 5, none⟩ = some (.int .i64 y0_5) := cell_of_row _ _ 5 _ _ _ Hpx0.out.here
  have c_px0_6 : (u10).cell? ⟨u2.heap.size, 6, none⟩ = some (.int .i64 y0_6) := cell_of_row _ _ 6 _ _ _ Hpx0.out.here
  have c_px0_7 : (u10).cell? ⟨u2.heap.size, 7, none⟩ = some (.bool y0_7) := cell_of_row _ _ 7 _ _ _ Hpx0.out.here
  have c_px0_8 : (u10).cell? ⟨u2.heap.size, 8, none⟩ = some (.int .i64 y0_8) := cell_of_row _ _ 8 _ _ _ Hpx0.out.here
  have c_px0_9 : (u10).cell? ⟨u2.heap.size, 9, none⟩ = some (.bool y0_9) := cell_of_row _ _ 9 _ _ _ Hpx0.out.here
  have c_px0_10 : (u10).cell? ⟨u2.heap.size, 10, none⟩ = some (.slice p0_a0 N0_0 p0_k0) := cell_of_row _ _ 10 _ _ _ Hpx0.out.here
  have c_px0_11 : (u10).cell? ⟨u2.heap.size, 11, none⟩ = some (.slice p0_a1 N0_1 p0_k1) := cell_of_row _ _ 11 _ _ _ Hpx0.out.here
  have c_qx0_0 : (u10).cell? ⟨u5.heap.size, 0, none⟩ = some (.int .i64 y0_0) := cell_of_row _ _ 0 _ _ _ Hqx0.out.here
  have c_qx0_1 : (u10).cell? ⟨u5.heap.size, 1, none⟩ = some (.int .i64 y0_1) := cell_of_row _ _ 1 _ _ _ Hqx0.out.here
  have c_qx0_2 : (u10).cell? ⟨u5.heap.size, 2, none⟩ = some (.int .i64 y0_2) := cell_of_row _ _ 2 _ _ _ Hqx0.out.here
  have c_qx0_3 : (u10).cell? ⟨u5.heap.size, 3, none⟩ = some (.int .i64 y0_3) := cell_of_row _ _ 3 _ _ _ Hqx0.out.here
  have c_qx0_4 : (u10).cell? ⟨u5.heap.size, 4, none⟩ = some (.int .i64 y0_4) := cell_of_row _ _ 4 _ _ _ Hqx0.out.here
  have c_qx0_5 : (u10).cell? ⟨u5.heap.size, 5, none⟩ = some (.int .i64 y0_5) := cell_of_row _ _ 5 _ _ _ Hqx0.out.here
  have c_qx0_6 : (u10).cell? ⟨u5.heap.size, 6, none⟩ = some (.int .i64 y0_6) := cell_of_row _ _ 6 _ _ _ Hqx0.out.here
  have c_qx0_7 : (u10).cell? ⟨u5.heap.size, 7, none⟩ = some (.bool y0_7) := cell_of_row _ _ 7 _ _ _ Hqx0.out.here
  have c_qx0_8 : (u10).cell? ⟨u5.heap.size, 8, none⟩ = some (.int .i64 y0_8) := cell_of_row _ _ 8 _ _ _ Hqx0.out.here
  have c_qx0_9 : (u10).cell? ⟨u5.heap.size, 9, none⟩ = some (.bool y0_9) := cell_of_row _ _ 9 _ _ _ Hqx0.out.here
  have c_qx0_10 : (u10).cell? ⟨u5.heap.size, 10, none⟩ = some (.slice q0_a0 N0_0 q0_k0) := cell_of_row _ _ 10 _ _ _ Hqx0.out.here
  have c_qx0_11 : (u10).cell? ⟨u5.heap.size, 11, none⟩ = some (.slice q0_a1 N0_1 q0_k1) := cell_of_row _ _ 11 _ _ _ Hqx0.out.here
  go_wp2_with fail
  clear c_px0_0 c_px0_1 c_px0_2 c_px0_3 c_px0_4 c_px0_5 c_px0_6 c_px0_7 c_px0_8 c_px0_9 c_px0_10 c_px0_11 c_qx0_0 c_qx0_1 c_qx0_2 c_qx0_3 c_qx0_4 c_qx0_5 c_qx0_6 c_qx0_7 c_qx0_8 c_qx0_9 c_qx0_10 c_qx0_11
  refine (HhQ0.out _ q0_a0 q0_k0 q0_a1 q0_k1 p0_a0 p0_k0 p0_a1 p0_k1 _ _ _ _ Hqd0.out.here Hpd0.out.here).mono ?_
  rintro e u11 ⟨rfl, hb⟩
  replace Hpd0 := hide (Hpd0.out.next hb)
  replace Hpx0 := hide (Hpx0.out.next hb)
  replace Hqd0 := hide (Hqd0.out.next hb)
  replace Hqx0 := hide (Hqx0.out.next hb)
  replace HW := hide (below_on HW.out hb)
  have z9 := hb.size
  clear hb
  have c_qx0_0 : (u11).cell? ⟨u5.heap.size, 0, none⟩ = some (.int .i64 y0_0) := cell_of_row _ _ 0 _ _ _ Hqx0.out.here
  have c_qx0_1 : (u11).cell? ⟨u5.heap.size, 1, none⟩ = some (.int .i64 y0_1) := cell_of_row _ _ 1 _ _ _ Hqx0.out.here
  have c_qx0_2 : (u11).cell? ⟨u5.heap.size, 2, none⟩ = some (.int .i64 y0_2) := cell_of_row _ _ 2 _ _ _ Hqx0.out.here
  have c_qx0_3 : (u11).cell? ⟨u5.heap.size, 3, none⟩ = some (.int .i64 y0_3) := cell_of_row _ _ 3 _ _ _ Hqx0.out.here
  have c_qx0_4 : (u11).cell? ⟨u5.heap.size, 4, none⟩ = some (.int .i64 y0_4) := cell_of_row _ _ 4 _ _ _ Hqx0.out.here
  have c_qx0_5 : (u11).cell? ⟨u5.heap.size, 5, none⟩ = some (.int .i64 y0_5) := cell_of_row _ _ 5 _ _ _ Hqx0.out.here
  have c_qx0_6 : (u11).cell? ⟨u5.heap.size, 6, none⟩ = some (.int .i64 y0_6) := cell_of_row _ _ 6 _ _ _ Hqx0.out.here
  have c_qx0_7 : (u11).cell? ⟨u5.heap.size, 7, none⟩ = some (.bool y0_7) := cell_of_row _ _ 7 _ _ _ Hqx0.out.here
  have c_qx0_8 : (u11).cell? ⟨u5.heap.size, 8, none⟩ = some (.int .i64 y0_8) := cell_of_row _ _ 8 _ _ _ Hqx0.out.here
  have c_qx0_9 : (u11).cell? ⟨u5.heap.size, 9, none⟩ = some (.bool y0_9) := cell_of_row _ _ 9 _ _ _ Hqx0.out.here
  have c_qx0_10 : (u11).cell? ⟨u5.heap.size, 10, none⟩ = some (.slice q0_a0 N0_0 q0_k0) := cell_of_row _ _ 10 _ _ _ Hqx0.out.here
  have c_qx0_11 : (u11).cell? ⟨u5.heap.size, 11, none⟩ = some (.slice q0_a1 N0_1 q0_k1) := cell_of_row _ _ 11 _ _ _ Hqx0.out.here
  go_wp2_with fail
  refine (HhN0.out _ q0_a0 q0_k0 q0_a1 q0_k1 _ _ Hqd0.out.here Hqn.out).mono ?_
  rintro e u12 ⟨rfl, hmk, hon⟩
  clear c_qx0_0 c_qx0_1 c_qx0_2 c_qx0_3 c_qx0_4 c_qx0_5 c_qx0_6 c_qx0_7 c_qx0_8 c_qx0_9 c_qx0_10 c_qx0_11
  replace Hpd0 := hide (Hpd0.out.only hon (fun b hb hm => by have h1 := Hlo_pd0.out b hb; have h2 := Hhi_pd0.out b hb; have h3 := Hlo_qd0.out b hm; have h4 := Hhi_qd0.out b hm; omega))
  replace Hpx0 := hide (Hpx0.out.only hon (fun b hb hm => by have h1 := List.mem_singleton.1 hb; have h3 := Hlo_qd0.out b hm; have h4 := Hhi_qd0.out b hm; omega))
  replace Hqx0 := hide (Hqx0.out.only hon (fun b hb hm => by have h1 := List.mem_singleton.1 hb; have h3 := Hlo_qd0.out b hm; have h4 := Hhi_qd0.out b hm; omega))
  replace HW := hide (below_only HW.out hon (fun b hb => by have h1 := Hlo_qd0.out b hb; omega))
  replace Hqd0 := hide (Keep.data hmk)
  have z10 := hon.size
  clear hon hmk
  have c_qx0_0 : (u12).cell? ⟨u5.heap.size, 0, none⟩ = some (.int .i64 y0_0) := cell_of_row _ _ 0 _ _ _ Hqx0.out.here
  have c_qx0_1 : (u12).cell? ⟨u5.heap.size, 1, none⟩ = some (.int .i64 y0_1) := cell_of_row _ _ 1 _ _ _ Hqx0.out.here
  have c_qx0_2 : (u12).cell? ⟨u5.heap.size, 2, none⟩ = some (.int .i64 y0_2) := cell_of_row _ _ 2 _ _ _ Hqx0.out.here
  have c_qx0_3 : (u12).cell? ⟨u5.heap.size, 3, none⟩ = some (.int .i64 y0_3) := cell_of_row _ _ 3 _ _ _ Hqx0.out.here
  have c_qx0_4 : (u12).cell? ⟨u5.heap.size, 4, none⟩ = some (.int .i64 y0_4) := cell_of_row _ _ 4 _ _ _ Hqx0.out.here
  have c_qx0_5 : (u12).cell? ⟨u5.heap.size, 5, none⟩ = some (.int .i64 y0_5) := cell_of_row _ _ 5 _ _ _ Hqx0.out.here
  have c_qx0_6 : (u12).cell? ⟨u5.heap.size, 6, none⟩ = some (.int .i64 y0_6) := cell_of_row _ _ 6 _ _ _ Hqx0.out.here
  have c_qx0_7 : (u12).cell? ⟨u5.heap.size, 7, none⟩ = some (.bool y0_7) := cell_of_row _ _ 7 _ _ _ Hqx0.out.here
  have c_qx0_8 : (u12).cell? ⟨u5.heap.size, 8, none⟩ = some (.int .i64 y0_8) := cell_of_row _ _ 8 _ _ _ Hqx0.out.here
  have c_qx0_9 : (u12).cell? ⟨u5.heap.size, 9, none⟩ = some (.bool y0_9) := cell_of_row _ _ 9 _ _ _ Hqx0.out.here
  have c_qx0_10 : (u12).cell? ⟨u5.heap.size, 10, none⟩ = some (.slice q0_a0 N0_0 q0_k0) := cell_of_row _ _ 10 _ _ _ Hqx0.out.here
  have c_qx0_11 : (u12).cell? ⟨u5.heap.size, 11, none⟩ = some (.slice q0_a1 N0_1 q0_k1) := cell_of_row _ _ 11 _ _ _ Hqx0.out.here
  go_wp2_with fail
  refine (HhH0.out _ q0_a0 q0_k0 q0_a1 q0_k1 _ _ Hqd0.out.here).mono ?_
  rintro e u13 ⟨rfl, hb⟩
  clear c_qx0_0 c_qx0_1 c_qx0_2 c_qx0_3 c_qx0_4 c_qx0_5 c_qx0_6 c_qx0_7 c_qx0_8 c_qx0_9 c_qx0_10 c_qx0_11
  replace Hpd0 := hide (Hpd0.out.next hb)
  replace Hpx0 := hide (Hpx0.out.next hb)
  replace Hqd0 := hide (Hqd0.out.next hb)
  replace Hqx0 := hide (Hqx0.out.next hb)
  replace HW := hide (below_on HW.out hb)
  have z11 := hb.size
  clear hb
  go_wp2_with fail
  refine (HhT0.out _ HW.out).mono ?_
  rintro e u14 ⟨t0_a0, t0_k0, tb0, rfl, to0, tn0, hb⟩
  have Htn0 := hide tn0
  clear tn0
  replace Hpd0 := hide (Hpd0.out.next hb)
  replace Hpx0 := hide (Hpx0.out.next hb)
  replace Hqd0 := hide (Hqd0.out.next hb)
  replace Hqx0 := hide (Hqx0.out.next hb)
  replace HW := hide (below_on HW.out hb)
  have z12 := hb.size
  clear hb
  have lo_td0 : ∀ b ∈ tb0, u13.heap.size ≤ b := fun b hb => (HoldsL.lt _ _ _ to0 b hb).1
  have hi_td0 : ∀ b ∈ tb0, b < u14.heap.size := fun b hb => (HoldsL.lt _ _ _ to0 b hb).2
  have Htd0 := hide (Keep.data to0)
  clear to0
  have Hlo_td0 := hide lo_td0
  have Hhi_td0 := hide hi_td0
  clear lo_td0 hi_td0
  go_wp2_with fail
  refine (HhI.out _ t0_a0 t0_k0 _ _ HW.out Htd0.out.here).mono ?_
  rintro e u15 ⟨h0_a0, h0_k0, h0_a1, h0_k1, hf0, rfl, ho0, hn, hb⟩
  have Hhn := hide hn
  clear hn
  replace Hpd0 := hide (Hpd0.out.next hb)
  replace Hpx0 := hide (Hpx0.out.next hb)
  replace Hqd0 := hide (Hqd0.out.next hb)
  replace Hqx0 := hide (Hqx0.out.next hb)
  replace Htd0 := hide (Htd0.out.next hb)
  replace HW := hide (below_on HW.out hb)
  have z13 := hb.size
  clear hb
  have lo_hd0 : ∀ b ∈ hf0, u14.heap.size ≤ b := fun b hb => (HoldsL.lt _ _ _ ho0 b hb).1
  have hi_hd0 : ∀ b ∈ hf0, b < u15.heap.size := fun b hb => (HoldsL.lt _ _ _ ho0 b hb).2
  have Hhd0 := hide (Keep.data ho0)
  clear ho0
  have Hlo_hd0 := hide lo_hd0
  have Hhi_hd0 := hide hi_hd0
  clear lo_hd0 hi_hd0
  clear Htd0
  clear Hlo_td0 Hhi_td0
  have hal := (Below.refl (u15).heap.size (u15)).alloc (Nat.le_refl _) (.cells #[.int .i64 y0_0, .int .i64 y0_1, .int .i64 y0_2, .int .i64 y0_3, .int .i64 y0_4, .int .i64 y0_5, .int .i64 y0_6, .bool y0_7, .int .i64 y0_8, .bool y0_9, .slice h0_a0 N0_0 h0_k0, .slice h0_a1 N0_1 h0_k1] 31)
  have hsz13 := World.size_alloc (u15) (.cells #[.int .i64 y0_0, .int .i64 y0_1, .int .i64 y0_2, .int .i64 y0_3, .int .i64 y0_4, .int .i64 y0_5, .int .i64 y0_6, .bool y0_7, .int .i64 y0_8, .bool y0_9, .slice h0_a0 N0_0 h0_k0, .slice h0_a1 N0_1 h0_k1] 31)
  have Hhx0 := hide (Keep.new (u15) (.cells #[.int .i64 y0_0, .int .i64 y0_1, .int .i64 y0_2, .int .i64 y0_3, .int .i64 y0_4, .int .i64 y0_5, .int .i64 y0_6, .bool y0_7, .int .i64 y0_8, .bool y0_9, .slice h0_a0 N0_0 h0_k0, .slice h0_a1 N0_1 h0_k1] 31))
  replace Hpd0 := hide (Hpd0.out.next hal)
  replace Hpx0 := hide (Hpx0.out.next hal)
  replace Hqd0 := hide (Hqd0.out.next hal)
  replace Hqx0 := hide (Hqx0.out.next hal)
  replace Hhd0 := hide (Hhd0.out.next hal)
  replace HW := hide (below_on HW.out hal)
  clear hal
  have c_px0_0 : ((u15).alloc (.cells #[.int .i64 y0_0, .int .i64 y0_1, .int .i64 y0_2, .int .i64 y0_3, .int .i64 y0_4, .int .i64 y0_5, .int .i64 y0_6, .bool y0_7, .int .i64 y0_8, .bool y0_9, .slice h0_a0 N0_0 h0_k0, .slice h0_a1 N0_1 h0_k1] 31)).cell? ⟨u2.heap.size, 0, none⟩ = some (.int .i64 y0_0) := cell_of_row _ _ 0 _ _ _ Hpx0.out.here
  have c_px0_1 : ((u15).alloc (.cells #[.int .i64 y0_0, .int .i64 y0_1, .int .i64 y0_2, .int .i64 y0_3, .int .i64 y0_4, .int .i64 y0_5, .int .i64 y0_6, .bool y0_7, .int .i64 y0_8, .bool y0_9, .slice h0_a0 N0_0 h0_k0, .slice h0_a1 N0_1 h0_k1] 31)).cell? ⟨u2.heap.size, 1, none⟩ = some (.int .i64 y0_1) := cell_of_row _ _ 1 _ _ _ Hpx0.out.here
  have c_px0_2 : ((u15).alloc (.cells #[.int .i64 y0_0, .int .i64 y0_1, .int .i64 y0_2, .int .i64 y0_3, .int .i64 y0_4, .int .i64 y0_5, .int .i64 y0_6, .bool y0_7, .int .i64 y0_8, .bool y0_9, .slice h0_a0 N0_0 h0_k0, .slice h0_a1 N0_1 h0_k1] 31)).cell? ⟨u2.heap.size, 2, none⟩ = some (.int .i64 y0_2) := cell_of_row _ _ 2 _ _ _ Hpx0.out.here
  have c_px0_3 : ((u15).alloc (.cells #[.int .i64 y0_0, .int .i64 y0_1, .int .i64 y0_2, .int .i64 y0_3, .int .i64 y0_4, .int .i64 y0_5, .int .i64 y0_6, .bool y0_7, .int .i64 y0_8, .bool y0_9, .slice h0_a0 N0_0 h0_k0, .slice h0_a1 N0_1 h0_k1] 31)).cell? ⟨u2.heap.size, 3, none⟩ = some (.int .i64 y0_3) := cell_of_row _ _ 3 _ _ _ Hpx0.out.here
  have c_px0_4 : ((u15).alloc (.cells #[.int .i64 y0_0, .int .i64 y0_1, .int .i64 y0_2, .int .i64 y0_3, .int .i64 y0_4, .int .i64 y0_5, .int .i64 y0_6, .bool y0_7, .int .i64 y0_8, .bool y0_9, .slice h0_a0 N0_0 h0_k0, .slice h0_a1 N0_1 h0_k1] 31)).cell? ⟨u2.heap.size, 4, none⟩ = some (.int .i64 y0_4) := cell_of_row _ _ 4 _ _ _ Hpx0.out.here
  have c_px0_5 : ((u15).alloc (.cells #[.int .i64 y0_0, .int .i64 y0_1, .int .i64 y0_2, .int .i64 y0_3, .int .i64 y0_4, .int .i64 y0_5, .int .i64 y0_6, .bool y0_7, .int .i64 y0_8, .bool y0_9, .slice h0_a0 N0_0 h0_k0, .slice h0_a1 N0_1 h0_k1] 31)).cell? ⟨u2.heap.size, 5, none⟩ = some (.int .i64 y0_5) := cell_of_row _ _ 5 _ _ _ Hpx0.out.here
  have c_px0_6 : ((u15).alloc (.cells #[.int .i64 y0_0, .int .i64 y0_1, .int .i64 y0_2, .int .i64 y0_3, .int .i64 y0_4, .int .i64 y0_5, .int .i64 y0_6, .bool y0_7, .int .i64 y0_8, .bool y0_9, .slice h0_a0 N0_0 h0_k0, .slice h0_a1 N0_1 h0_k1] 31)).cell? ⟨u2.heap.size, 6, none⟩ = some (.int .i64 y0_6) := cell_of_row _ _ 6 _ _ _ Hpx0.out.here
  have c_px0_7 : ((u15).alloc (.cells #[.int .i64 y0_0, .int .i64 y0_1, .int .i64 y0_2, .int .i64 y0_3, .int .i64 y0_4, .int .i64 y0_5, .int .i64 y0_6, .bool y0_7, .int .i64 y0_8, .bool y0_9, .slice h0_a0 N0_0 h0_k0, .slice h0_a1 N0_1 h0_k1] 31)).cell? ⟨u2.heap.size, 7, none⟩ = some (.bool y0_7) := cell_of_row _ _ 7 _ _ _ Hpx0.out.here
  have c_px0_8 : ((u15).alloc (.cells #[.int .i64 y0_0, .int .i64 y0_1, .int .i64 y0_2, .int .i64 y0_3, .int .i64 y0_4, .int .i64 y0_5, .int .i64 y0_6, .bool y0_7, .int .i64 y0_8, .bool y0_9, .slice h0_a0 N0_0 h0_k0, .slice h0_a1 N0_1 h0_k1] 31)).cell? ⟨u2.heap.size, 8, none⟩ = some (.int .i64 y0_8) := cell_of_row _ _ 8 _ _ _ Hpx0.out.here
  have c_px0_9 : ((u15).alloc (.cells #[.int .i64 y0_0, .int .i64 y0_1, .int .i64 y0_2, .int .i64 y0_3, .int .i64 y0_4, .int .i64 y0_5, .int .i64 y0_6, .bool y0_7, .int .i64 y0_8, .bool y0_9, .slice h0_a0 N0_0 h0_k0, .slice h0_a1 N0_1 h0_k1] 31)).cell? ⟨u2.heap.size, 9, none⟩ = some (.bool y0_9) := cell_of_row _ _ 9 _ _ _ Hpx0.out.here
  have c_px0_10 : ((u15).alloc (.cells #[.int .i64 y0_0, .int .i64 y0_1, .int .i64 y0_2, .int .i64 y0_3, .int .i64 y0_4, .int .i64 y0_5, .int .i64 y0_6, .bool y0_7, .int .i64 y0_8, .bool y0_9, .slice h0_a0 N0_0 h0_k0, .slice h0_a1 N0_1 h0_k1] 31)).cell? ⟨u2.heap.size, 10, none⟩ = some (.slice p0_a0 N0_0 p0_k0) := cell_of_row _ _ 10 _ _ _ Hpx0.out.here
  have c_px0_11 : ((u15).alloc (.cells #[.int .i64 y0_0, .int .i64 y0_1, .int .i64 y0_2, .int .i64 y0_3, .int .i64 y0_4, .int .i64 y0_5, .int .i64 y0_6, .bool y0_7, .int .i64 y0_8, .bool y0_9, .slice h0_a0 N0_0 h0_k0, .slice h0_a1 N0_1 h0_k1] 31)).cell? ⟨u2.heap.size, 11, none⟩ = some (.slice p0_a1 N0_1 p0_k1) := cell_of_row _ _ 11 _ _ _ Hpx0.out.here
  have c_hx0_0 : ((u15).alloc (.cells #[.int .i64 y0_0, .int .i64 y0_1, .int .i64 y0_2, .int .i64 y0_3, .int .i64 y0_4, .int .i64 y0_5, .int .i64 y0_6, .bool y0_7, .int .i64 y0_8, .bool y0_9, .slice h0_a0 N0_0 h0_k0, .slice h0_a1 N0_1 h0_k1] 31)).cell? ⟨u15.heap.size, 0, none⟩ = some (.int .i64 y0_0) := cell_of_row _ _ 0 _ _ _ Hhx0.out.here
  have c_hx0_1 : ((u15).alloc (.cells #[.int .i64 y0_0, .int .i64 y0_1, .int .i64 y0_2, .int .i64 y0_3, .int .i64 y0_4, .int .i64 y0_5, .int .i64 y0_6, .bool y0_7, .int .i64 y0_8, .bool y0_9, .slice h0_a0 N0_0 h0_k0, .slice h0_a1 N0_1 h0_k1] 31)).cell? ⟨u15.heap.size, 1, none⟩ = some (.int .i64 y0_1) := cell_of_row _ _ 1 _ _ _ Hhx0.out.here
  have c_hx0_2 : ((u15).alloc (.cells #[.int .i64 y0_0, .int .i64 y0_1, .int .i64 y0_2, .int .i64 y0_3, .int .i64 y0_4, .int .i64 y0_5, .int .i64 y0_6, .bool y0_7, .int .i64 y0_8, .bool y0_9, .slice h0_a0 N0_0 h0_k0, .slice h0_a1 N0_1 h0_k1] 31)).cell? ⟨u15.heap.size, 2, none⟩ = some (.int .i64 y0_2) := cell_of_row _ _ 2 _ _ _ Hhx0.out.here
  have c_hx0_3 : ((u15).alloc (.cells #[.int .i64 y0_0, .int .i64 y0_1, .int .i64 y0_2, .int .i64 y0_3, .int .i64 y0_4, .int .i64 y0_5, .int .i64 y0_6, .bool y0_7, .int .i64 y0_8, .bool y0_9, .slice h0_a0 N0_0 h0_k0, .slice h0_a1 N0_1 h0_k1] 31)).cell? ⟨u15.heap.size, 3, none⟩ = some (.int .i64 y0_3) := cell_of_row _ _ 3 _ _ _ Hhx0.out.here
  have c_hx0_4 : ((u15).alloc (.cells #[.int .i64 y0_0, .int .i64 y0_1, .int .i64 y0_2, .int .i64 y0_3, .int .i64 y0_4, .int .i64 y0_5, .int .i64 y0_6, .bool y0_7, .int .i64 y0_8, .bool y0_9, .slice h0_a0 N0_0 h0_k0, .slice h0_a1 N0_1 h0_k1] 31)).cell? ⟨u15.heap.size, 4, none⟩ = some (.int .i64 y0_4) := cell_of_row _ _ 4 _ _ _ Hhx0.out.here
  have c_hx0_5 : ((u15).alloc (.cells #[.int .i64 y0_0, .int .i64 y0_1, .int .i64 y0_2, .int .i64 y0_3, .int .i64 y0_4, .int .i64 y0_5, .int .i64 y0_6, .bool y0_7, .int .i64 y0_8, .bool y0_9, .slice h0_a0 N0_0 h0_k0, .slice h0_a1 N0_1 h0_k1] 31)).cell? ⟨u15.heap.size, 5, none⟩ = some (.int .i64 y0_5) := cell_of_row _ _ 5 _ _ _ Hhx0.out.here
  have c_hx0_6 : ((u15).alloc (.cells #[.int .i64 y0_0, .int .i64 y0_1, .int .i64 y0_2, .int .i64 y0_3, .int .i64 y0_4, .int .i64 y0_5, .int .i64 y0_6, .bool y0_7, .int .i64 y0_8, .bool y0_9, .slice h0_a0 N0_0 h0_k0, .slice h0_a1 N0_1 h0_k1] 31)).cell? ⟨u15.heap.size, 6, none⟩ = some (.int .i64 y0_6) := cell_of_row _ _ 6 _ _ _ Hhx0.out.here
  have c_hx0_7 : ((u15).alloc (.cells #[.int .i64 y0_0, .int .i64 y0_1, .int .i64 y0_2, .int .i64 y0_3, .int .i64 y0_4, .int .i64 y0_5, .int .i64 y0_6, .bool y0_7, .int .i64 y0_8, .bool y0_9, .slice h0_a0 N0_0 h0_k0, .slice h0_a1 N0_1 h0_k1] 31)).cell? ⟨u15.heap.size, 7, none⟩ = some (.bool y0_7) := cell_of_row _ _ 7 _ _ _ Hhx0.out.here
  have c_hx0_8 : ((u15).alloc (.cells #[.int .i64 y0_0, .int .i64 y0_1, .int .i64 y0_2, .int .i64 y0_3, .int .i64 y0_4, .int .i64 y0_5, .int .i64 y0_6, .bool y0_7, .int .i64 y0_8, .bool y0_9, .slice h0_a0 N0_0 h0_k0, .slice h0_a1 N0_1 h0_k1] 31)).cell? ⟨u15.heap.size, 8, none⟩ = some (.int .i64 y0_8) := cell_of_row _ _ 8 _ _ _ Hhx0.out.here
  have c_hx0_9 : ((u15).alloc (.cells #[.int .i64 y0_0, .int .i64 y0_1, .int .i64 y0_2, .int .i64 y0_3, .int .i64 y0_4, .int .i64 y0_5, .int .i64 y0_6, .bool y0_7, .int .i64 y0_8, .bool y0_9, .slice h0_a0 N0_0 h0_k0, .slice h0_a1 N0_1 h0_k1] 31)).cell? ⟨u15.heap.size, 9, none⟩ = some (.bool y0_9) := cell_of_row _ _ 9 _ _ _ Hhx0.out.here
  have c_hx0_10 : ((u15).alloc (.cells #[.int .i64 y0_0, .int .i64 y0_1, .int .i64 y0_2, .int .i64 y0_3, .int .i64 y0_4, .int .i64 y0_5, .int .i64 y0_6, .bool y0_7, .int .i64 y0_8, .bool y0_9, .slice h0_a0 N0_0 h0_k0, .slice h0_a1 N0_1 h0_k1] 31)).cell? ⟨u15.heap.size, 10, none⟩ = some (.slice h0_a0 N0_0 h0_k0) := cell_of_row _ _ 10 _ _ _ Hhx0.out.here
  have c_hx0_11 : ((u15).alloc (.cells #[.int .i64 y0_0, .int .i64 y0_1, .int .i64 y0_2, .int .i64 y0_3, .int .i64 y0_4, .int .i64 y0_5, .int .i64 y0_6, .bool y0_7, .int .i64 y0_8, .bool y0_9, .slice h0_a0 N0_0 h0_k0, .slice h0_a1 N0_1 h0_k1] 31)).cell? ⟨u15.heap.size, 11, none⟩ = some (.slice h0_a1 N0_1 h0_k1) := cell_of_row _ _ 11 _ _ _ Hhx0.out.here
  go_wp2_with fail
  generalize (u15).alloc (.cells #[.int .i64 y0_0, .int .i64 y0_1, .int .i64 y0_2, .int .i64 y0_3, .int .i64 y0_4, .int .i64 y0_5, .int .i64 y0_6, .bool y0_7, .int .i64 y0_8, .bool y0_9, .slice h0_a0 N0_0 h0_k0, .slice h0_a1 N0_1 h0_k1] 31) = V16 at *
  clear c_px0_0 c_px0_1 c_px0_2 c_px0_3 c_px0_4 c_px0_5 c_px0_6 c_px0_7 c_px0_8 c_px0_9 c_px0_10 c_px0_11 c_hx0_0 c_hx0_1 c_hx0_2 c_hx0_3 c_hx0_4 c_hx0_5 c_hx0_6 c_hx0_7 c_hx0_8 c_hx0_9 c_hx0_10 c_hx0_11
  refine (HhQ0.out _ h0_a0 h0_k0 h0_a1 h0_k1 p0_a0 p0_k0 p0_a1 p0_k1 _ _ _ _ Hhd0.out.here Hpd0.out.here).mono ?_
  rintro e u17 ⟨rfl, hb⟩
  replace Hpd0 := hide (Hpd0.out.next hb)
  replace Hpx0 := hide (Hpx0.out.next hb)
  replace Hqd0 := hide (Hqd0.out.next hb)
  replace Hqx0 := hide (Hqx0.out.next hb)
  replace Hhd0 := hide (Hhd0.out.next hb)
  replace Hhx0 := hide (Hhx0.out.next hb)
  replace HW := hide (below_on HW.out hb)
  have z14 := hb.size
  clear hb
  have c_qx0_0 : (u17).cell? ⟨u5.heap.size, 0, none⟩ = some (.int .i64 y0_0) := cell_of_row _ _ 0 _ _ _ Hqx0.out.here
  have c_qx0_1 : (u17).cell? ⟨u5.heap.size, 1, none⟩ = some (.int .i64 y0_1) := cell_of_row _ _ 1 _ _ _ Hqx0.out.here
  have c_qx0_2 : (u17).cell? ⟨u5.heap.size, 2, none⟩ = some (.int .i64 y0_2) := cell_of_row _ _ 2 _ _ _ Hqx0.out.here
  have c_qx0_3 : (u17).cell? ⟨u5.heap.size, 3, none⟩ = some (.int .i64 y0_3) := cell_of_row _ _ 3 _ _ _ Hqx0.out.here
  have c_qx0_4 : (u17).cell? ⟨u5.heap.size, 4, none⟩ = some (.int .i64 y0_4) := cell_of_row _ _ 4 _ _ _ Hqx0.out.here
  have c_qx0_5 : (u17).cell? ⟨u5.heap.size, 5, none⟩ = some (.int .i64 y0_5) := cell_of_row _ _ 5 _ _ _ Hqx0.out.here
  have c_qx0_6 : (u17).cell? ⟨u5.heap.size, 6, none⟩ = some (.int .i64 y0_6) := cell_of_row _ _ 6 _ _ _ Hqx0.out.here
  have c_qx0_7 : (u17).cell? ⟨u5.heap.size, 7, none⟩ = some (.bool y0_7) := cell_of_row _ _ 7 _ _ _ Hqx0.out.here
  have c_qx0_8 : (u17).cell? ⟨u5.heap.size, 8, none⟩ = some (.int .i64 y0_8) := cell_of_row _ _ 8 _ _ _ Hqx0.out.here
  have c_qx0_9 : (u17).cell? ⟨u5.heap.size, 9, none⟩ = some (.bool y0_9) := cell_of_row _ _ 9 _ _ _ Hqx0.out.here
  have c_qx0_10 : (u17).cell? ⟨u5.heap.size, 10, none⟩ = some (.slice q0_a0 N0_0 q0_k0) := cell_of_row _ _ 10 _ _ _ Hqx0.out.here
  have c_qx0_11 : (u17).cell? ⟨u5.heap.size, 11, none⟩ = some (.slice q0_a1 N0_1 q0_k1) := cell_of_row _ _ 11 _ _ _ Hqx0.out.here
  go_wp2_with fail
  refine (HhH0.out _ q0_a0 q0_k0 q0_a1 q0_k1 _ _ Hqd0.out.here).mono ?_
  rintro e u18 ⟨rfl, hb⟩
  clear c_qx0_0 c_qx0_1 c_qx0_2 c_qx0_3 c_qx0_4 c_qx0_5 c_qx0_6 c_qx0_7 c_qx0_8 c_qx0_9 c_qx0_10 c_qx0_11
  replace Hpd0 := hide (Hpd0.out.next hb)
  replace Hpx0 := hide (Hpx0.out.next hb)
  replace Hqd0 := hide (Hqd0.out.next hb)
  replace Hqx0 := hide (Hqx0.out.next hb)
  replace Hhd0 := hide (Hhd0.out.next hb)
  replace Hhx0 := hide (Hhx0.out.next hb)
  replace HW := hide (below_on HW.out hb)
  have z15 := hb.size
  clear hb
  go_wp2_with fail
  go_ret
  exact ⟨rfl, HW.out⟩
end Go.Proofs.YtcnfnimgpiaamaaDoor
