/-
Contracts of functions of this seat.
-/
import Derived.Test.YtjojeplffefnpaaRows
import Derived.WalkKit
import Derived.ProofKit
import Derived.OpenShut
import Derived.Test.YtjojeplffefnpaaStp
namespace Go.Proofs.Ytjojeplffefnpaa
open Go.ChangeShapes Go.WideShapes Go.ChangeAt Go.RowKit
set_option linter.unusedVariables false
set_option maxRecDepth 100000
/-- What is wanted of a function of a Packet that answers a bool. -/
def BoolPacketP (f : Nat) (Pre : World → Prop) (x0 : Int) (x1 : Int) (x2 : Bool) (x3 : Bool) (x4 : Int) (x5 : Int) (x6 : Int) (x7 : Int) (x8 : Int) (z0 : List Int) (z1 : List Int) (C : Bool) : Prop :=
  ∀ (a0 : Option Addr) (n0 c0 : Nat) (a1 : Option Addr) (n1 c1 : Nat) (W : World), z0.length = n0 → Arr W a0 z0 → n0 ≤ c0 → n0 ≤ 1048576 → z1.length = n1 → Arr W a1 z1 → n1 ≤ c1 → n1 ≤ 1048576 → Pre W → Calls Try.prog f #[.agg #[.int .i64 x0, .int .i64 x1, .bool x2, .bool x3, .int .i64 x4, .int .i64 x5, .int .i64 x6, .int .i64 x7, .int .i64 x8, .slice a0 n0 c0, .slice a1 n1 c1]] W fun e w' => e = .returned (.bool C) ∧ Below W.heap.size W w'
set_option maxHeartbeats 8000000 in
set_option maxRecDepth 100000 in
theorem walkMayComplain0 (Pre : World → Prop) (hpre : ∀ (w w' : World), Pre w → Below w.heap.size w w' → Pre w') (x0 : Int) (x1 : Int) (x2 : Bool) (x3 : Bool) (x4 : Int) (x5 : Int) (x6 : Int) (x7 : Int) (x8 : Int) (a0 : Option Addr) (n0 c0 : Nat) (a1 : Option Addr) (n1 c1 : Nat) (z0 : List Int) (z1 : List Int) (C : Bool) (hS : BoolPacketP 7 Pre x0 x1 x2 x3 x4 x5 x6 x7 x8 z0 z1 C) (hI : BoolPacketP 9 Pre x0 x1 x2 x3 x4 x5 x6 x7 x8 z0 z1 C) (w : World) (h0n : z0.length = n0) (h0a : Arr w a0 z0) (y0 : n0 ≤ 9223372036854775807) (h1n : z1.length = n1) (h1a : Arr w a1 z1) (y1 : n1 ≤ 9223372036854775807) (hp : Pre w) :
    Calls Try.prog 3 #[.agg #[.int .i64 x0, .int .i64 x1, .bool x2, .bool x3, .int .i64 x4, .int .i64 x5, .int .i64 x6, .int .i64 x7, .int .i64 x8, .slice a0 n0 c0, .slice a1 n1 c1]] w fun e w' => e = .returned (.bool true) ∧ Below w.heap.size w w' := by
  have HB := hide (BoxPacket.start w x0 x1 x2 x3 x4 x5 x6 x7 x8 (.slice a0 n0 c0) (.slice a1 n1 c1) 24)
  by_cases hbig0 : 1048576 < (n0 : Int)
  · have HZ := hide (fun W => szPacket_big0 x0 x1 x2 x3 x4 x5 x6 x7 x8 a0 n0 c0 a1 n1 c1 W (by omega) hbig0 y0 y1)
    clear hpre hp hS hI h0n h0a h1n h1a
    go_enter Try.func3, Try.ntmps3
    go_wp2_with fail
    refine (HZ.out _).mono ?_
    rintro e w1 ⟨rfl, hb1⟩
    have hB1 := HB.out.next hb1
    go_wp2_with fail
    go_ret
    exact ⟨rfl, hB1.1⟩
  by_cases hbig1 : 1048576 < (n0 : Int) + (n1 : Int)
  · have HZ := hide (fun W => szPacket_big1 x0 x1 x2 x3 x4 x5 x6 x7 x8 a0 n0 c0 a1 n1 c1 W (by omega) hbig1 y0 y1)
    clear hpre hp hS hI h0n h0a h1n h1a
    go_enter Try.func3, Try.ntmps3
    go_wp2_with fail
    refine (HZ.out _).mono ?_
    rintro e w1 ⟨rfl, hb1⟩
    have hB1 := HB.out.next hb1
    go_wp2_with fail
    go_ret
    exact ⟨rfl, hB1.1⟩
  have m0 : n0 ≤ 1048576 := by omega
  have m1 : n1 ≤ 1048576 := by omega
  have HZ := hide (fun W => szPacket_ok x0 x1 x2 x3 x4 x5 x6 x7 x8 a0 n0 c0 a1 n1 c1 W (by omega))
  have CT := hide (fun W (hb : Below w.heap.size w W) => toPacket_walk x0 x1 x2 x3 x4 x5 x6 x7 x8 a0 n0 c0 a1 n1 c1 z0 z1 W h0n (h0a.below hb (Nat.le_refl _)) m0 h1n (h1a.below hb (Nat.le_refl _)) m1)
  have CS := hide (fun (W : World) (g0 g1 : Nat) (B : Nat) (hb : Below w.heap.size w W) (h : CopPacket W B g0 g1 n0 n1 z0 z1) => hS (some ⟨g0, 0, none⟩) n0 n0 (some ⟨g1, 0, none⟩) n1 n1 W h0n h.arr0 (Nat.le_refl _) m0 h1n h.arr1 (Nat.le_refl _) m1 (hpre w W hp hb))
  have CI := hide (fun (W : World) (g0 g1 : Nat) (B : Nat) (hb : Below w.heap.size w W) (h : CopPacket W B g0 g1 n0 n1 z0 z1) => hI (some ⟨g0, 0, none⟩) n0 n0 (some ⟨g1, 0, none⟩) n1 n1 W h0n h.arr0 (Nat.le_refl _) m0 h1n h.arr1 (Nat.le_refl _) m1 (hpre w W hp hb))
  have CE := hide (fun (W : World) (g0 g1 : Nat) (e0 e1 : Nat) (B C : Nat) (h : CopPacket W B g0 g1 n0 n1 z0 z1) (k : CopPacket W C e0 e1 n0 n1 z0 z1) => eqPacket_walk x0 x1 x2 x3 x4 x5 x6 x7 x8 (some ⟨g0, 0, none⟩) n0 n0 (some ⟨g1, 0, none⟩) n1 n1 (some ⟨e0, 0, none⟩) n0 (some ⟨e1, 0, none⟩) n1 z0 z1 W h0n h.arr0 k.arr0 m0 h1n h.arr1 k.arr1 m1)
  clear hS hI hpre hp h0n h0a h1n h1a
  go_enter Try.func3, Try.ntmps3
  go_wp2_with fail
  refine (HZ.out _).mono ?_
  rintro e w1 ⟨rfl, hb1⟩
  have HB1 := hide (HB.out.next hb1)
  obtain ⟨_, _, k0, k1, k2, k3, k4, k5, k6, k7, k8, k9, k10⟩ := HB1.out
  clear hb1 HB HZ
  go_wp2_with fail
  refine (CT.out _ HB1.out.1).mono ?_
  rintro e w2 ⟨r0, r1, rfl, hc10, hc11, hc1o0, hb2⟩
  have hC1 : CopPacket w2 _ r0 r1 n0 n1 z0 z1 := ⟨hc10, hc11, hc1o0⟩
  have HB2 := hide (HB1.out.next hb2)
  clear k0 k1 k2 k3 k4 k5 k6 k7 k8 k9 k10 HB1 hb2 hc10 hc11 hc1o0
  go_wp2_with fail
  refine (CS.out _ _ _ _ HB2.out.1 hC1).mono ?_
  rintro e w3 ⟨rfl, hb3⟩
  have HB3 := hide (HB2.out.next hb3)
  obtain ⟨_, hsz3, k0, k1, k2, k3, k4, k5, k6, k7, k8, k9, k10⟩ := HB3.out
  clear hC1 hb3 HB2 CS
  go_wp2_with fail
  refine (CT.out _ HB3.out.1).mono ?_
  rintro e w4 ⟨s0, s1, rfl, hc20, hc21, hc2o0, hb4⟩
  have hC2 : CopPacket w4 _ s0 s1 n0 n1 z0 z1 := ⟨hc20, hc21, hc2o0⟩
  have z4 := hb4.size
  have HB4 := hide (HB3.out.next hb4)
  have HC2 := hide hC2
  have hX := BoxPacket.start w4 x0 x1 x2 x3 x4 x5 x6 x7 x8 (.slice (some ⟨s0, 0, none⟩) n0 n0) (.slice (some ⟨s1, 0, none⟩) n1 n1) 27
  clear hC2 hc20 hc21 hc2o0 k0 k1 k2 k3 k4 k5 k6 k7 k8 k9 k10
  go_wp2_with fail
  generalize w4.alloc (.cells #[.int .i64 x0, .int .i64 x1, .bool x2, .bool x3, .int .i64 x4, .int .i64 x5, .int .i64 x6, .int .i64 x7, .int .i64 x8, .slice (some ⟨s0, 0, none⟩) n0 n0, .slice (some ⟨s1, 0, none⟩) n1 n1] 27) = W4 at *
  have HX := hide hX
  have hltX := hX.2.1
  have HB5 := hide (HB4.out.next hX.1)
  have HC2b := hide (HC2.out.next hX.1)
  clear hX HB4 HC2 hb4 HB3
  refine (CI.out _ _ _ _ HB5.out.1 HC2b.out).mono ?_
  rintro e w5 ⟨rfl, hb5⟩
  have z5 := hb5.size
  have HB7 := hide (HB5.out.next hb5)
  have HC2d := hide (HC2b.out.next hb5)
  have HX6 := hide (HX.out.next hb5)
  clear hb5 HB5 HC2b HX
  go_wp2_with fail
  go_region_held3 (fun w' => BoxPacket w w' x0 x1 x2 x3 x4 x5 x6 x7 x8 (.slice a0 n0 c0) (.slice a1 n1 c1) ∧ BoxPacket w4 w' x0 x1 x2 x3 x4 x5 x6 x7 x8 (.slice (some ⟨s0, 0, none⟩) n0 n0) (.slice (some ⟨s1, 0, none⟩) n1 n1)) (first | assumption | exact twoPacket (by assumption) (by assumption) | exact ⟨HB7.out.drew, HX6.out.drew⟩)
    (first
      | (go_at_call 8; refine (CT.out _ (by assumption : BoxPacket w _ x0 x1 x2 x3 x4 x5 x6 x7 x8 (.slice a0 n0 c0) (.slice a1 n1 c1) ∧ BoxPacket w4 _ x0 x1 x2 x3 x4 x5 x6 x7 x8 (.slice (some ⟨s0, 0, none⟩) n0 n0) (.slice (some ⟨s1, 0, none⟩) n1 n1)).1.1).mono ?_; rintro e w7 ⟨t0, t1, rfl, hc30, hc31, hc3o0, hb7⟩; have hC3 : CopPacket w7 _ t0 t1 n0 n1 z0 z1 := ⟨hc30, hc31, hc3o0⟩; have hC2x := HC2d.out.drew.next hb7)
      | (go_at_call 10; refine (CE.out _ _ _ _ _ _ _ hC2x hC3).mono ?_; rintro e w8 ⟨rfl, hb8⟩))
  have hb68 : Below w5.heap.size w5 w8 := (below_drew hb7).trans (hb8.mono hb7.size)
  have HB8 := hide (HB7.out.next hb68)
  go_wp2_with fail
  go_ret
  exact ⟨rfl, HB8.out.1⟩
end Go.Proofs.Ytjojeplffefnpaa
