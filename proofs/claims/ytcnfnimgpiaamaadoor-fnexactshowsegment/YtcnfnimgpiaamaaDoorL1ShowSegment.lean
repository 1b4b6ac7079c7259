/-
Contracts of functions of this seat.
-/
import Derived.Test.YtcnfnimgpiaamaaDoorRows
import Derived.WalkKit
import Derived.ProofKit
import Derived.OpenShut
import Derived.Test.YtcnfnimgpiaamaaDoorL1EncodeSegment
import Derived.Test.YtcnfnimgpiaamaaDoorL0ShowSegment
namespace Go.Proofs.YtcnfnimgpiaamaaDoor
open Go.ChangeShapes Go.WideShapes Go.ChangeAt Go.RowKit
set_option linter.unusedVariables false
set_option maxRecDepth 100000
/-- What is wanted of ShowSegment. -/
def ShowSegmentP (f : Nat) (Pre : World → Prop) (x0_0 : Int) (x0_1 : Int) (x0_2 : Int) (x0_3 : Int) (x0_4 : Int) (x0_5 : Int) (x0_6 : Int) (x0_7 : Bool) (x0_8 : Int) (x0_9 : Bool) (z0_0 : List Int) (z0_1 : List Int) (C0 : ByteArray) (C1 : Int) : Prop :=
  ∀ (a0_0 : Option Addr) (n0_0 c0_0 : Nat) (a0_1 : Option Addr) (n0_1 c0_1 : Nat) (W : World), z0_0.length = n0_0 * 2 → ArrI W a0_0 z0_0 → n0_0 ≤ c0_0 → n0_0 ≤ 1048576 → z0_1.length = n0_1 → Arr W a0_1 z0_1 → n0_1 ≤ c0_1 → n0_1 ≤ 1048576 → Pre W → Calls Tryd.prog f #[.agg #[.int .i64 x0_0, .int .i64 x0_1, .int .i64 x0_2, .int .i64 x0_3, .int .i64 x0_4, .int .i64 x0_5, .int .i64 x0_6, .bool x0_7, .int .i64 x0_8, .bool x0_9, .slice a0_0 n0_0 c0_0, .slice a0_1 n0_1 c0_1]] W fun e w' => e = .returned (.tuple #[.string C0, .int .i64 C1]) ∧ Below W.heap.size W w'
set_option maxHeartbeats 4000000 in
theorem walkShowSegment1 (Pre : World → Prop) (hpre : ∀ (w w' : World), Pre w → Below w.heap.size w w' → Pre w') (x0_0 : Int) (x0_1 : Int) (x0_2 : Int) (x0_3 : Int) (x0_4 : Int) (x0_5 : Int) (x0_6 : Int) (x0_7 : Bool) (x0_8 : Int) (x0_9 : Bool) (z0_0 : List Int) (z0_1 : List Int) (C0 : ByteArray) (C1 : Int) (hS : ShowSegmentP 8 Pre x0_0 x0_1 x0_2 x0_3 x0_4 x0_5 x0_6 x0_7 x0_8 x0_9 z0_0 z0_1 C0 C1) (hI : ShowSegmentP 10 Pre x0_0 x0_1 x0_2 x0_3 x0_4 x0_5 x0_6 x0_7 x0_8 x0_9 z0_0 z0_1 C0 C1)  (a0_0 : Option Addr) (n0_0 c0_0 : Nat) (a0_1 : Option Addr) (n0_1 c0_1 : Nat) (w : World) (hn0_0 : z0_0.length = n0_0 * 2) (ha0_0 : ArrI w a0_0 z0_0) (hy0_0 : n0_0 ≤ 9223372036854775807) (hn0_1 : z0_1.length = n0_1) (ha0_1 : Arr w a0_1 z0_1) (hy0_1 : n0_1 ≤ 9223372036854775807) (hp : Pre w) :
    Calls Tryd.prog 3 #[.agg #[.int .i64 x0_0, .int .i64 x0_1, .int .i64 x0_2, .int .i64 x0_3, .int .i64 x0_4, .int .i64 x0_5, .int .i64 x0_6, .bool x0_7, .int .i64 x0_8, .bool x0_9, .slice a0_0 n0_0 c0_0, .slice a0_1 n0_1 c0_1]] w fun e w' => e = .returned (.bool true) ∧ Below w.heap.size w w' := by
  by_cases hbig0 : 1048576 < (n0_0 : Int)
  · have HZ := hide (fun W => szSegment_big0 x0_0 x0_1 x0_2 x0_3 x0_4 x0_5 x0_6 x0_7 x0_8 x0_9 a0_0 n0_0 c0_0 a0_1 n0_1 c0_1 W (by omega) hbig0 hy0_0 hy0_1)
    have HX := hide (Keep.new w (.cells #[.int .i64 x0_0, .int .i64 x0_1, .int .i64 x0_2, .int .i64 x0_3, .int .i64 x0_4, .int .i64 x0_5, .int .i64 x0_6, .bool x0_7, .int .i64 x0_8, .bool x0_9, .slice a0_0 n0_0 c0_0, .slice a0_1 n0_1 c0_1] 25))
    have HW := hide ((Below.refl w.heap.size w).alloc (Nat.le_refl _) (.cells #[.int .i64 x0_0, .int .i64 x0_1, .int .i64 x0_2, .int .i64 x0_3, .int .i64 x0_4, .int .i64 x0_5, .int .i64 x0_6, .bool x0_7, .int .i64 x0_8, .bool x0_9, .slice a0_0 n0_0 c0_0, .slice a0_1 n0_1 c0_1] 25))
    clear hpre hp hS hI hn0_0 ha0_0 hn0_1 ha0_1
    go_enter Tryd.func3, Tryd.ntmps3
    go_wp2_with fail
    refine (HZ.out _).mono ?_
    rintro e w1 ⟨rfl, hb1⟩
    go_wp2_with fail
    go_ret
    exact ⟨rfl, below_on HW.out hb1⟩
  by_cases hbig1 : 1048576 < (n0_0 : Int) + (n0_1 : Int)
  · have HZ := hide (fun W => szSegment_big1 x0_0 x0_1 x0_2 x0_3 x0_4 x0_5 x0_6 x0_7 x0_8 x0_9 a0_0 n0_0 c0_0 a0_1 n0_1 c0_1 W (by omega) hbig1 hy0_0 hy0_1)
    have HX := hide (Keep.new w (.cells #[.int .i64 x0_0, .int .i64 x0_1, .int .i64 x0_2, .int .i64 x0_3, .int .i64 x0_4, .int .i64 x0_5, .int .i64 x0_6, .bool x0_7, .int .i64 x0_8, .bool x0_9, .slice a0_0 n0_0 c0_0, .slice a0_1 n0_1 c0_1] 25))
    have HW := hide ((Below.refl w.heap.size w).alloc (Nat.le_refl _) (.cells #[.int .i64 x0_0, .int .i64 x0_1, .int .i64 x0_2, .int .i64 x0_3, .int .i64 x0_4, .int .i64 x0_5, .int .i64 x0_6, .bool x0_7, .int .i64 x0_8, .bool x0_9, .slice a0_0 n0_0 c0_0, .slice a0_1 n0_1 c0_1] 25))
    clear hpre hp hS hI hn0_0 ha0_0 hn0_1 ha0_1
    go_enter Tryd.func3, Tryd.ntmps3
    go_wp2_with fail
    refine (HZ.out _).mono ?_
    rintro e w1 ⟨rfl, hb1⟩
    go_wp2_with fail
    go_ret
    exact ⟨rfl, below_on HW.out hb1⟩
  have m0_0 : n0_0 ≤ 1048576 := by omega
  have m0_1 : n0_1 ≤ 1048576 := by omega
  exact walkShowSegment0 w x0_0 x0_1 x0_2 x0_3 x0_4 x0_5 x0_6 x0_7 x0_8 x0_9 a0_0 n0_0 c0_0 a0_1 n0_1 c0_1
    [stD n0_0 z0_0, bytesD z0_1]
    C0
    C1
    (1048576 - (n0_0 : Int) - (n0_1 : Int)) (by omega)
    (by
      intro W
      exact szSegment_d W x0_0 x0_1 x0_2 x0_3 x0_4 x0_5 x0_6 x0_7 x0_8 x0_9 a0_0 n0_0 c0_0 a0_1 n0_1 c0_1 (1048576) (1048576 - (n0_0 : Int)) (1048576 - (n0_0 : Int) - (n0_1 : Int)) (by omega) (fun V => szSt_d _ _ _ _ _ rfl (by omega) (by omega) V) (by omega) (fun V => szB_d _ _ _ _ _ rfl (by omega) (by omega) V))
    (by
      intro W hb
      exact toSegment_d W x0_0 x0_1 x0_2 x0_3 x0_4 x0_5 x0_6 x0_7 x0_8 x0_9 a0_0 n0_0 c0_0 a0_1 n0_1 c0_1 (stD n0_0 z0_0) (bytesD z0_1) (fun V hv => toSt_d z0_0 _ _ _ V hn0_0 ((ha0_0.below hb (Nat.le_refl _)).below hv (Nat.le_refl _)) m0_0) (fun V hv => toB_d z0_1 _ _ _ V hn0_1 ((ha0_1.below hb (Nat.le_refl _)).below hv (Nat.le_refl _)) m0_1))
    (by
      intro W p0_a0 p0_k0 p0_a1 p0_k1 B0 bs0 hb g0
      obtain ⟨_, _, u0_f0, _, ee, eb0, u0_h0, u0_r0⟩ := holdsL_cons.1 g0
      cases ee
      obtain ⟨_, _, u0_f1, _, ee, eb1, u0_h1, u0_r1⟩ := holdsL_cons.1 u0_r0
      cases ee
      obtain ⟨ar0_0, ln0_0, _, cp0_0⟩ := stD_read u0_h0
      obtain ⟨ar0_1, ln0_1, cp0_1⟩ := bytes_read u0_h1 ha0_1.1
      refine (hS _ _ _ _ _ _ W ln0_0 ar0_0 cp0_0 m0_0 ln0_1 ar0_1 cp0_1 m0_1 (hpre w W hp hb)).mono ?_
      rintro e w' ⟨rfl, hb'⟩
      exact ⟨rfl, hb'⟩)
    (by
      intro W p0_a0 p0_k0 p0_a1 p0_k1 B0 bs0 hb g0
      obtain ⟨_, _, u0_f0, _, ee, eb0, u0_h0, u0_r0⟩ := holdsL_cons.1 g0
      cases ee
      obtain ⟨_, _, u0_f1, _, ee, eb1, u0_h1, u0_r1⟩ := holdsL_cons.1 u0_r0
      cases ee
      obtain ⟨ar0_0, ln0_0, _, cp0_0⟩ := stD_read u0_h0
      obtain ⟨ar0_1, ln0_1, cp0_1⟩ := bytes_read u0_h1 ha0_1.1
      refine (hI _ _ _ _ _ _ W ln0_0 ar0_0 cp0_0 m0_0 ln0_1 ar0_1 cp0_1 m0_1 (hpre w W hp hb)).mono ?_
      rintro e w' ⟨rfl, hb'⟩
      exact ⟨rfl, hb'⟩)
    (by
      intro W pa0 pk0 pa1 pk1 qa0 qk0 qa1 qk1 B1 B2 b1 b2 h1 h2
      obtain ⟨_, _, uf0, _, ee, eb0, uh0, ur0⟩ := holdsL_cons.1 h1
      cases ee
      obtain ⟨_, _, uf1, _, ee, eb1, uh1, ur1⟩ := holdsL_cons.1 ur0
      cases ee
      obtain ⟨_, _, vf0, _, ee, eb0, vh0, vr0⟩ := holdsL_cons.1 h2
      cases ee
      obtain ⟨_, _, vf1, _, ee, eb1, vh1, vr1⟩ := holdsL_cons.1 vr0
      cases ee
      exact eqSegment_d W x0_0 x0_1 x0_2 x0_3 x0_4 x0_5 x0_6 x0_7 x0_8 x0_9 pa0 n0_0 pk0 pa1 n0_1 pk1 qa0 qk0 qa1 qk1 (fun V hv => eqSt_d z0_0 _ _ _ _ _ _ _ _ _ V (Holds.next uh0 hv) (Holds.next vh0 hv) m0_0) (fun V hv => eqB_d z0_1 _ _ _ _ _ _ _ _ _ V (Holds.next uh1 hv) (Holds.next vh1 hv) m0_1))
end Go.Proofs.YtcnfnimgpiaamaaDoor
