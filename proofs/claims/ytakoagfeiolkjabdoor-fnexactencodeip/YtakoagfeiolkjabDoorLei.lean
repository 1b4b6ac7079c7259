/-
Contracts of functions of this seat.
-/
import Derived.Test.YtakoagfeiolkjabDoorRows
import Derived.WalkKit
import Derived.ProofKit
import Derived.OpenShut
import Derived.Test.YtakoagfeiolkjabDoorStp
namespace Go.Proofs.YtakoagfeiolkjabDoor
open Go.ChangeShapes Go.WideShapes Go.ChangeAt Go.RowKit
set_option linter.unusedVariables false
set_option maxRecDepth 100000
set_option maxHeartbeats 8000000 in
set_option maxRecDepth 100000 in
theorem walkEncodeIP0 (Pre : World → Prop) (hpre : ∀ (w w' : World), Pre w → Below w.heap.size w w' → Pre w') (x0 : Int) (x1 : Int) (x2 : Bool) (x3 : Bool) (x4 : Int) (x5 : Int) (x6 : Int) (x7 : Int) (x8 : Int) (a0 : Option Addr) (n0 c0 : Nat) (a1 : Option Addr) (n1 c1 : Nat) (z0 : List Int) (z1 : List Int) (L : List Int) (C : Int) (hS : EncPacketP 24 Pre x0 x1 x2 x3 x4 x5 x6 x7 x8 z0 z1 L C) (hI : EncPacketP 26 Pre x0 x1 x2 x3 x4 x5 x6 x7 x8 z0 z1 L C) (hlen : L.length ≤ 1048576) (w : World) (h0n : z0.length = n0) (h0a : Arr w a0 z0) (y0 : n0 ≤ 9223372036854775807) (h1n : z1.length = n1) (h1a : Arr w a1 z1) (y1 : n1 ≤ 9223372036854775807) (hp : Pre w) :
    Calls Tryd.prog 5 #[.agg #[.int .i64 x0, .int .i64 x1, .bool x2, .bool x3, .int .i64 x4, .int .i64 x5, .int .i64 x6, .int .i64 x7, .int .i64 x8, .slice a0 n0 c0, .slice a1 n1 c1]] w fun e w' => e = .returned (.bool true) ∧ Below w.heap.size w w' := by
  have HB := hide (BoxPacket.start w x0 x1 x2 x3 x4 x5 x6 x7 x8 (.slice a0 n0 c0) (.slice a1 n1 c1) 44)
  by_cases hbig0 : 1048576 < (n0 : Int)
  · have HZ := hide (fun W => szPacket_big0 x0 x1 x2 x3 x4 x5 x6 x7 x8 a0 n0 c0 a1 n1 c1 W (by omega) hbig0 y0 y1)
    clear hpre hp hS hI h0n h0a h1n h1a
    go_enter Tryd.func5, Tryd.ntmps5
    go_wp2_with fail
    refine (HZ.out _).mono ?_
    rintro e w1 ⟨rfl, hb1⟩
    have hB1 := HB.out.next hb1
    go_wp2_with fail
    go_ret
    exact ⟨rfl, hB1.1⟩
  by_cases hbig1 : 1048576 < (n0 : Int) + (n1 : Int)
  · have HZ := hide (fun W => szPacket_big1 x0 x1 x2 x3 x4 x5 x6 x7 x8 a0 n0 c0 a1 n1 c1 W (by omega) hbig1 y0 y1)
    clear hpre hp hS hI h0n h0a h1n h1a
    go_enter Tryd.func5, Tryd.ntmps5
    go_wp2_with fail
    refine (HZ.out _).mono ?_
    rintro e w1 ⟨rfl, hb1⟩
    have hB1 := HB.out.next hb1
    go_wp2_with fail
    go_ret
    exact ⟨rfl, hB1.1⟩
  have m0 : n0 ≤ 1048576 := by omega
  have m1 : n1 ≤ 1048576 := by omega
  have HZ := hide (fun W => szPacket_ok x0 x1 x2 x3 x4 x5 x6 x7 x8 a0 n0 c0 a1 n1 c1 W (by omega))
  have CT := hide (fun W (hb : Below w.heap.size w W) => toPacket_walk x0 x1 x2 x3 x4 x5 x6 x7 x8 a0 n0 c0 a1 n1 c1 z0 z1 W h0n (h0a.below hb (Nat.le_refl _)) m0 h1n (h1a.below hb (Nat.le_refl _)) m1)
  have CS := hide (fun (W : World) (g0 g1 : Nat) (B : Nat) (hb : Below w.heap.size w W) (h : CopPacket W B g0 g1 n0 n1 z0 z1) => hS (some ⟨g0, 0, none⟩) n0 n0 (some ⟨g1, 0, none⟩) n1 n1 W h0n h.arr0 (Nat.le_refl _) m0 h1n h.arr1 (Nat.le_refl _) m1 (hpre w W hp hb))
  have CI := hide (fun (W : World) (g0 g1 : Nat) (B : Nat) (hb : Below w.heap.size w W) (h : CopPacket W B g0 g1 n0 n1 z0 z1) => hI (some ⟨g0, 0, none⟩) n0 n0 (some ⟨g1, 0, none⟩) n1 n1 W h0n h.arr0 (Nat.le_refl _) m0 h1n h.arr1 (Nat.le_refl _) m1 (hpre w W hp hb))
  have CE := hide (fun (W : World) (g0 g1 : Nat) (e0 e1 : Nat) (B C : Nat) (h : CopPacket W B g0 g1 n0 n1 z0 z1) (k : CopPacket W C e0 e1 n0 n1 z0 z1) => eqPacket_walk x0 x1 x2 x3 x4 x5 x6 x7 x8 (some ⟨g0, 0, none⟩) n0 n0 (some ⟨g1, 0, none⟩) n1 n1 (some ⟨e0, 0, none⟩) n0 (some ⟨e1, 0, none⟩) n1 z0 z1 W h0n h.arr0 k.arr0 m0 h1n h.arr1 k.arr1 m1)
  have CM := hide (fun (W : World) (g0 g1 : Nat) (B : Nat) (h : CopPacket W B g0 g1 n0 n1 z0 z1) => markPacket_walk x0 x1 x2 x3 x4 x5 x6 x7 x8 (.slice (some ⟨g0, 0, none⟩) n0 n0) (.slice (some ⟨g1, 0, none⟩) n1 n1) z0 z1 1 W B h.own0 (by omega) B h.own1 (by omega) (fun b e e' => by have q1 : g0 = b := Option.some.inj e; have q2 : g1 = b := Option.some.inj e'; have q3 := h.2.2; omega) (by omega))
  clear hS hI hpre hp h0a h1a
  have H0N := hide h0n
  have H1N := hide h1n
  clear h0n h1n
  go_enter Tryd.func5, Tryd.ntmps5
  go_wp2_with fail
  refine (HZ.out _).mono ?_
  rintro e w1 ⟨rfl, hb1⟩
  have HB1 := hide (HB.out.next hb1)
  obtain ⟨_, _, k0, k1, k2, k3, k4, k5, k6, k7, k8, k9, k10⟩ := HB1.out
  clear hb1 HB HZ
  go_wp2_with fail
  refine (CT.out _ HB1.out.1).mono ?_
  rintro e w2 ⟨r0, r1, rfl, hc10, hc11, hc1o0, hb2⟩
  have hC1 : CopPacket w2 _ r0 r1 n0 n1 z0 z1 := ⟨hc10, hc11, hc1o0⟩
  have HB2 := hide (HB1.out.next hb2)
  clear k0 k1 k2 k3 k4 k5 k6 k7 k8 k9 k10 HB1 hb2 hc10 hc11 hc1o0
  go_wp2_with fail
  refine (CS.out _ _ _ _ HB2.out.1 hC1).mono ?_
  rintro e w3 ⟨v4, rfl, hO4, hb3⟩
  have HB3 := hide (HB2.out.next hb3)
  obtain ⟨a4, k4, rfl, ha4⟩ := own_slice hO4
  have HO4 := hide hO4
  obtain ⟨_, hsz3, k0, k1, k2, k3, k4, k5, k6, k7, k8, k9, k10⟩ := HB3.out
  have lt4 := own_lt hO4
  clear hC1 hO4 hb3 HB2 ha4 CS
  go_wp2_with fail
  refine (CT.out _ HB3.out.1).mono ?_
  rintro e w4 ⟨s0, s1, rfl, hc20, hc21, hc2o0, hb4⟩
  have hC2 : CopPacket w4 _ s0 s1 n0 n1 z0 z1 := ⟨hc20, hc21, hc2o0⟩
  have z4 := hb4.size
  have HB4 := hide (HB3.out.next hb4)
  have HO4b := hide (HO4.out.next hb4)
  have HC2 := hide hC2
  have hX := BoxPacket.start w4 x0 x1 x2 x3 x4 x5 x6 x7 x8 (.slice (some ⟨s0, 0, none⟩) n0 n0) (.slice (some ⟨s1, 0, none⟩) n1 n1) 47
  clear hC2 hc20 hc21 hc2o0 k0 k1 k2 k3 k4 k5 k6 k7 k8 k9 k10
  go_wp2_with fail
  generalize w4.alloc (.cells #[.int .i64 x0, .int .i64 x1, .bool x2, .bool x3, .int .i64 x4, .int .i64 x5, .int .i64 x6, .int .i64 x7, .int .i64 x8, .slice (some ⟨s0, 0, none⟩) n0 n0, .slice (some ⟨s1, 0, none⟩) n1 n1] 47) = W4 at *
  have HX := hide hX
  have hltX := hX.2.1
  have lt6 := HC2.out.at
  have HB5 := hide (HB4.out.next hX.1)
  have HO4c := hide (HO4b.out.next hX.1)
  have HC2b := hide (HC2.out.next hX.1)
  clear hX HB4 HO4b HC2 hb4 HB3 HO4
  refine (CI.out _ _ _ _ HB5.out.1 HC2b.out).mono ?_
  rintro e w5 ⟨v7, rfl, hO7, hb5⟩
  obtain ⟨a7, k7, rfl, ha7⟩ := own_slice hO7
  have HO7 := hide hO7
  have z5 := hb5.size
  have HB6 := hide (HB5.out.next hb5)
  have HO4d := hide (HO4c.out.next hb5)
  have HC2c := hide (HC2b.out.next hb5)
  have HX5 := hide (HX.out.next hb5)
  clear hO7 ha7 hb5 HB5 HO4c HC2b HX
  have E1 := hide (eqByteS_walk a7 a4 L.length k7 k4 L w5 rfl (own_arr HO7.out).1 (own_arr HO4d.out).1 (by omega))
  go_wp2_with fail
  refine E1.out.mono ?_
  rintro e w6 ⟨rfl, hb6, hz6⟩
  have z6 := hb6.size
  have HO7b := hide (HO7.out.next hb6)
  have HB7 := hide (HB6.out.next hb6)
  have HO4e := hide (HO4d.out.next hb6)
  have HC2d := hide (HC2c.out.next hb6)
  have HX6 := hide (HX5.out.next hb6)
  clear E1 hb6 hz6 HO7 HB6 HO4d HC2c HX5
  go_wp2_with fail
  go_region_held3 (fun w' => BoxPacket w w' x0 x1 x2 x3 x4 x5 x6 x7 x8 (.slice a0 n0 c0) (.slice a1 n1 c1) ∧ BoxPacket w4 w' x0 x1 x2 x3 x4 x5 x6 x7 x8 (.slice (some ⟨s0, 0, none⟩) n0 n0) (.slice (some ⟨s1, 0, none⟩) n1 n1)) (first | assumption | exact twoPacket (by assumption) (by assumption) | exact ⟨HB7.out.drew, HX6.out.drew⟩)
    (first
      | (go_at_call 25; refine (CT.out _ (by assumption : BoxPacket w _ x0 x1 x2 x3 x4 x5 x6 x7 x8 (.slice a0 n0 c0) (.slice a1 n1 c1) ∧ BoxPacket w4 _ x0 x1 x2 x3 x4 x5 x6 x7 x8 (.slice (some ⟨s0, 0, none⟩) n0 n0) (.slice (some ⟨s1, 0, none⟩) n1 n1)).1.1).mono ?_; rintro e w7 ⟨t0, t1, rfl, hc30, hc31, hc3o0, hb7⟩; have hC3 : CopPacket w7 _ t0 t1 n0 n1 z0 z1 := ⟨hc30, hc31, hc3o0⟩; have hC2x := HC2d.out.drew.next hb7)
      | (go_at_call 27; refine (CE.out _ _ _ _ _ _ _ hC2x hC3).mono ?_; rintro e w8 ⟨rfl, hb8⟩))
  have hb68 : Below w6.heap.size w6 w8 := (below_drew hb7).trans (hb8.mono hb7.size)
  have z8 := hb68.size
  have HO7c := hide (HO7b.out.next hb68)
  have HB8 := hide (HB7.out.next hb68)
  have HO4f := hide (HO4e.out.next hb68)
  have HC2e := hide (HC2d.out.next hb68)
  have HX8 := hide (HX6.out.next hb68)
  obtain ⟨_, _, k0, k1, k2, k3, k4, k5, k6, k7, k8, k9, k10⟩ := HX8.out
  clear hC3 hc30 hc31 hc3o0 hC2x hb7 hb8 hb68 HO7b HB7 HO4e HC2d HX6
  go_wp2_with fail
  refine (CM.out _ _ _ _ HC2e.out).mono ?_
  rintro e w9 ⟨rfl, _, _, hg9⟩
  have hs8 : w3.heap.size ≤ w8.heap.size := by omega
  have hb9 : Below w3.heap.size w8 w9 := hg9.below (fun b hb => (lt6 b (by simpa [Value.ownBlock] using hb)).1) hs8
  have z9 := hb9.size
  have HB9 := hide (HB8.out.keep hb9 hsz3)
  have HO4g := hide (HO4f.out.below hb9 lt4)
  have HO7d := hide (HO7c.out.only hg9 (fun b e hm => by
    have h1 := (HO7c.out.1.lt b e).1
    have h2 := (lt6 b (by simpa [Value.ownBlock] using hm)).2
    omega))
  clear hb9 hg9 hs8 HB8 HO4f HO7c HX8 HC2e k0 k1 k2 k3 k4 k5 k6 k7 k8 k9 k10 CM CE
  have E2 := hide (eqByteS_walk a7 a4 L.length k7 k4 L w9 rfl (own_arr HO7d.out).1 (own_arr HO4g.out).1 (by omega))
  go_wp2_with fail
  refine E2.out.mono ?_
  rintro e w10 ⟨rfl, hb10, hz10⟩
  have HO7e := hide (HO7d.out.next hb10)
  have HB10 := hide (HB9.out.next hb10)
  have HO4h := hide (HO4g.out.next hb10)
  have hs10 : W4.heap.size ≤ w10.heap.size := by
    have := hb10.size
    omega
  clear E2 hb10 hz10 HO7d HB9 HO4g
  have M1 := hide (markB_walk _ _ L 1 w10 HO7e.out (by omega) (by omega))
  go_wp2_with fail
  refine M1.out.mono ?_
  rintro e w11 ⟨rfl, hO7m, hg11⟩
  have HM := hide hO7m
  have hb11 : Below W4.heap.size w10 w11 := grown_own HO7e.out hg11 hs10
  have hW4 : w3.heap.size ≤ W4.heap.size := by omega
  have HB11 := hide (HB10.out.keep hb11 (by omega))
  have HO4i := hide (HO4h.out.below hb11 (fun k hk => Nat.lt_of_lt_of_le (lt4 k hk) hW4))
  clear M1 hO7m hg11 hb11 HO7e HB10 HO4h hs10
  have D1 := hide (heldB_walk a7 L.length k7 1 w11 (own_arr HM.out).1 (by omega) (by omega))
  go_wp2_with fail
  refine D1.out.mono ?_
  rintro e w12 ⟨rfl, hw12⟩
  rw [hw12]
  clear hw12 D1
  obtain ⟨_, _, k0, k1, k2, k3, k4, k5, k6, k7, k8, k9, k10⟩ := HB11.out
  go_wp2_with fail
  refine (CT.out _ HB11.out.1).mono ?_
  rintro e w13 ⟨u0, u1, rfl, hc40, hc41, hc4o0, hb13⟩
  have hC4 : CopPacket w13 _ u0 u1 n0 n1 z0 z1 := ⟨hc40, hc41, hc4o0⟩
  have HB13 := hide (HB11.out.next hb13)
  have HO4j := hide (HO4i.out.next hb13)
  have HM13 := hide (HM.out.next hb13)
  clear k0 k1 k2 k3 k4 k5 k6 k7 k8 k9 k10 HB11 HO4i HM hb13 hc40 hc41 hc4o0
  go_wp2_with fail
  refine (CI.out _ _ _ _ HB13.out.1 hC4).mono ?_
  rintro e w14 ⟨v14, rfl, hO14, hb14⟩
  obtain ⟨a14, k14, rfl, ha14⟩ := own_slice hO14
  have HB14 := hide (HB13.out.next hb14)
  have HO4k := hide (HO4j.out.next hb14)
  have HM14 := hide (HM13.out.next hb14)
  clear hC4 HB13 HO4j HM13 hb14
  have E3 := hide (eqByteS_walk a14 a4 L.length k14 k4 L w14 rfl ha14 (own_arr HO4k.out).1 (by omega))
  clear ha14 hO14
  go_wp2_with fail
  refine E3.out.mono ?_
  rintro e w15 ⟨rfl, hb15, hz15⟩
  have HB15 := hide (HB14.out.next hb15)
  have HM15 := hide (HM14.out.next hb15)
  clear E3 hb15 hz15 HB14 HM14 HO4k
  have D2 := hide (heldB_walk a7 L.length k7 1 w15 (own_arr HM15.out).1 (by omega) (by omega))
  go_wp2_with fail
  refine D2.out.mono ?_
  rintro e w16 ⟨rfl, hw16⟩
  rw [hw16]
  go_wp2_with fail
  go_ret
  exact ⟨rfl, HB15.out.1⟩
end Go.Proofs.YtakoagfeiolkjabDoor
