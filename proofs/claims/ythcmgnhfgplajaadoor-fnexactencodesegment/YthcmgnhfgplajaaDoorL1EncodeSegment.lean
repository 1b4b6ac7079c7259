/-
Contracts of functions of this seat.
-/
import Derived.Test.YthcmgnhfgplajaaDoorRows
import Derived.WalkKit
import Derived.ProofKit
import Derived.OpenShut
import Derived.Test.YthcmgnhfgplajaaDoorTys
import Derived.Test.YthcmgnhfgplajaaDoorL0EncodeSegment
namespace Go.Proofs.YthcmgnhfgplajaaDoor
open Go.ChangeShapes Go.WideShapes Go.ChangeAt Go.RowKit
set_option linter.unusedVariables false
set_option maxRecDepth 100000
theorem szSegment_big0 (x0 x1 x2 x3 x4 x5 x6 : Int) (x7 : Bool) (x8 : Int) (x9 : Bool) (a0 : Option Addr) (n0 c0 : Nat) (a1 : Option Addr) (n1 c1 : Nat) (w : World) (h0 : 0 ≤ 1048576) (hs : 1048576 < (n0 : Int)) (m0 : n0 ≤ 9223372036854775807) (m1 : n1 ≤ 9223372036854775807) :
    Calls Tryd.prog 7 #[.agg #[.int .i64 x0, .int .i64 x1, .int .i64 x2, .int .i64 x3, .int .i64 x4, .int .i64 x5, .int .i64 x6, .bool x7, .int .i64 x8, .bool x9, .slice a0 n0 c0, .slice a1 n1 c1], .int .i64 1048576] w fun e w' => e = .returned (.int .i64 (-1)) ∧ Below w.heap.size w w' := by
  have hb := (Below.refl w.heap.size w).alloc (Nat.le_refl _) (.cells #[.int .i64 x0, .int .i64 x1, .int .i64 x2, .int .i64 x3, .int .i64 x4, .int .i64 x5, .int .i64 x6, .bool x7, .int .i64 x8, .bool x9, .slice a0 n0 c0, .slice a1 n1 c1] 25)
  have Z0 := hide (fun w => by have h := szSt_walk a0 n0 c0 (1048576) w (by omega) (by omega) (by omega); rw [if_pos (by omega)] at h; exact h)
  go_enter Tryd.func7, Tryd.ntmps7
  go_wp2_with fail
  refine (Z0.out _).mono ?_
  rintro e w' ⟨rfl, rfl⟩
  go_wp2_with fail
  go_ret
  exact ⟨rfl, hb⟩
theorem szSegment_big1 (x0 x1 x2 x3 x4 x5 x6 : Int) (x7 : Bool) (x8 : Int) (x9 : Bool) (a0 : Option Addr) (n0 c0 : Nat) (a1 : Option Addr) (n1 c1 : Nat) (w : World) (h0 : (n0 : Int) ≤ 1048576) (hs : 1048576 < (n0 : Int) + (n1 : Int)) (m0 : n0 ≤ 9223372036854775807) (m1 : n1 ≤ 9223372036854775807) :
    Calls Tryd.prog 7 #[.agg #[.int .i64 x0, .int .i64 x1, .int .i64 x2, .int .i64 x3, .int .i64 x4, .int .i64 x5, .int .i64 x6, .bool x7, .int .i64 x8, .bool x9, .slice a0 n0 c0, .slice a1 n1 c1], .int .i64 1048576] w fun e w' => e = .returned (.int .i64 (-1)) ∧ Below w.heap.size w w' := by
  have hb := (Below.refl w.heap.size w).alloc (Nat.le_refl _) (.cells #[.int .i64 x0, .int .i64 x1, .int .i64 x2, .int .i64 x3, .int .i64 x4, .int .i64 x5, .int .i64 x6, .bool x7, .int .i64 x8, .bool x9, .slice a0 n0 c0, .slice a1 n1 c1] 25)
  have Z0 := hide (fun w => by have h := szSt_walk a0 n0 c0 (1048576) w (by omega) (by omega) (by omega); rw [if_neg (by omega)] at h; exact h)
  have Z1 := hide (fun w => by have h := szByteS_walk a1 n1 c1 (1048576 - (n0 : Int)) w (by omega) (by omega) (by omega); rw [if_pos (by omega)] at h; exact h)
  go_enter Tryd.func7, Tryd.ntmps7
  go_wp2_with fail
  refine (Z0.out _).mono ?_
  rintro e w' ⟨rfl, rfl⟩
  go_wp2_with fail
  refine (Z1.out _).mono ?_
  rintro e w' ⟨rfl, rfl⟩
  go_wp2_with fail
  go_ret
  exact ⟨rfl, hb⟩

/-- What is wanted of EncodeSegment. -/
def EncodeSegmentP (f : Nat) (Pre : World → Prop) (x0_0 : Int) (x0_1 : Int) (x0_2 : Int) (x0_3 : Int) (x0_4 : Int) (x0_5 : Int) (x0_6 : Int) (x0_7 : Bool) (x0_8 : Int) (x0_9 : Bool) (z0_0 : List Int) (z0_1 : List Int) (m1 : Int) (m2 : Int) (L0_0 : List Int) (C1 : Int) : Prop :=
  ∀ (a0_0 : Option Addr) (n0_0 c0_0 : Nat) (a0_1 : Option Addr) (n0_1 c0_1 : Nat) (W : World), z0_0.length = n0_0 * 2 → ArrI W a0_0 z0_0 → n0_0 ≤ c0_0 → n0_0 ≤ 1048576 → z0_1.length = n0_1 → Arr W a0_1 z0_1 → n0_1 ≤ c0_1 → n0_1 ≤ 1048576 → Pre W → Calls Tryd.prog f #[.agg #[.int .i64 x0_0, .int .i64 x0_1, .int .i64 x0_2, .int .i64 x0_3, .int .i64 x0_4, .int .i64 x0_5, .int .i64 x0_6, .bool x0_7, .int .i64 x0_8, .bool x0_9, .slice a0_0 n0_0 c0_0, .slice a0_1 n0_1 c0_1], .int .i64 m1, .int .i64 m2] W fun e w' => ∃ v0_0 : Value, e = .returned (.tuple #[v0_0, .int .i64 C1]) ∧ OwnB w' W.heap.size v0_0 L0_0 ∧ Below W.heap.size W w'
theorem szB_d (a : Option Addr) (n cap : Nat) (l l' : Int) (hl : l' = l - (n : Int)) (h0 : 0 ≤ l') (h1 : l ≤ 1048576) (w : World) : Calls Tryd.prog 25 #[.slice a n cap, .int .i64 l] w fun e w' => e = .returned (.int .i64 l') ∧ Below w.heap.size w w' := by
  have h := szByteS_walk a n cap l w (by omega) (by omega) h1
  rw [if_neg (by omega), ← hl] at h
  refine h.mono ?_
  rintro e w' ⟨rfl, rfl⟩
  exact ⟨rfl, Below.refl _ _⟩
set_option maxHeartbeats 4000000 in
theorem walkEncodeSegment1 (Pre : World → Prop) (hpre : ∀ (w w' : World), Pre w → Below w.heap.size w w' → Pre w') (x0_0 : Int) (x0_1 : Int) (x0_2 : Int) (x0_3 : Int) (x0_4 : Int) (x0_5 : Int) (x0_6 : Int) (x0_7 : Bool) (x0_8 : Int) (x0_9 : Bool) (z0_0 : List Int) (z0_1 : List Int) (m1 : Int) (m2 : Int) (L0_0 : List Int) (C1 : Int) (hS : EncodeSegmentP 19 Pre x0_0 x0_1 x0_2 x0_3 x0_4 x0_5 x0_6 x0_7 x0_8 x0_9 z0_0 z0_1 m1 m2 L0_0 C1) (hI : EncodeSegmentP 20 Pre x0_0 x0_1 x0_2 x0_3 x0_4 x0_5 x0_6 x0_7 x0_8 x0_9 z0_0 z0_1 m1 m2 L0_0 C1) (len0_0 : L0_0.length ≤ 1048576) (a0_0 : Option Addr) (n0_0 c0_0 : Nat) (a0_1 : Option Addr) (n0_1 c0_1 : Nat) (w : World) (hn0_0 : z0_0.length = n0_0 * 2) (ha0_0 : ArrI w a0_0 z0_0) (hy0_0 : n0_0 ≤ 9223372036854775807) (hn0_1 : z0_1.length = n0_1) (ha0_1 : Arr w a0_1 z0_1) (hy0_1 : n0_1 ≤ 9223372036854775807) (hp : Pre w) :
    Calls Tryd.prog 5 #[.agg #[.int .i64 x0_0, .int .i64 x0_1, .int .i64 x0_2, .int .i64 x0_3, .int .i64 x0_4, .int .i64 x0_5, .int .i64 x0_6, .bool x0_7, .int .i64 x0_8, .bool x0_9, .slice a0_0 n0_0 c0_0, .slice a0_1 n0_1 c0_1], .int .i64 m1, .int .i64 m2] w fun e w' => e = .returned (.bool true) ∧ Below w.heap.size w w' := by
  by_cases hbig0 : 1048576 < (n0_0 : Int)
  · have HZ := hide (fun W => szSegment_big0 x0_0 x0_1 x0_2 x0_3 x0_4 x0_5 x0_6 x0_7 x0_8 x0_9 a0_0 n0_0 c0_0 a0_1 n0_1 c0_1 W (by omega) hbig0 hy0_0 hy0_1)
    have HX := hide (Keep.new w (.cells #[.int .i64 x0_0, .int .i64 x0_1, .int .i64 x0_2, .int .i64 x0_3, .int .i64 x0_4, .int .i64 x0_5, .int .i64 x0_6, .bool x0_7, .int .i64 x0_8, .bool x0_9, .slice a0_0 n0_0 c0_0, .slice a0_1 n0_1 c0_1] 25))
    have HW := hide ((Below.refl w.heap.size w).alloc (Nat.le_refl _) (.cells #[.int .i64 x0_0, .int .i64 x0_1, .int .i64 x0_2, .int .i64 x0_3, .int .i64 x0_4, .int .i64 x0_5, .int .i64 x0_6, .bool x0_7, .int .i64 x0_8, .bool x0_9, .slice a0_0 n0_0 c0_0, .slice a0_1 n0_1 c0_1] 25))
    clear hpre hp hS hI hn0_0 ha0_0 hn0_1 ha0_1
    go_enter Tryd.func5, Tryd.ntmps5
    go_wp2_with fail
    refine (HZ.out _).mono ?_
    rintro e w1 ⟨rfl, hb1⟩
    go_wp2_with fail
    go_ret
    exact ⟨rfl, below_on HW.out hb1⟩
  by_cases hbig1 : 1048576 < (n0_0 : Int) + (n0_1 : Int)
  · have HZ := hide (fun W => szSegment_big1 x0_0 x0_1 x0_2 x0_3 x0_4 x0_5 x0_6 x0_7 x0_8 x0_9 a0_0 n0_0 c0_0 a0_1 n0_1 c0_1 W (by omega) hbig1 hy0_0 hy0_1)
    have HX := hide (Keep.new w (.cells #[.int .i64 x0_0, .int .i64 x0_1, .int .i64 x0_2, .int .i64 x0_3, .int .i64 x0_4, .int .i64 x0_5, .int .i64 x0_6, .bool x0_7, .int .i64 x0_8, .bool x0_9, .slice a0_0 n0_0 c0_0, .slice a0_1 n0_1 c0_1] 25))
    have HW := hide ((Below.refl w.heap.size w).alloc (Nat.le_refl _) (.cells #[.int .i64 x0_0, .int .i64 x0_1, .int .i64 x0_2, .int .i64 x0_3, .int .i64 x0_4, .int .i64 x0_5, .int .i64 x0_6, .bool x0_7, .int .i64 x0_8, .bool x0_9, .slice a0_0 n0_0 c0_0, .slice a0_1 n0_1 c0_1] 25))
    clear hpre hp hS hI hn0_0 ha0_0 hn0_1 ha0_1
    go_enter Tryd.func5, Tryd.ntmps5
    go_wp2_with fail
    refine (HZ.out _).mono ?_
    rintro e w1 ⟨rfl, hb1⟩
    go_wp2_with fail
    go_ret
    exact ⟨rfl, below_on HW.out hb1⟩
  have m0_0 : n0_0 ≤ 1048576 := by omega
  have m0_1 : n0_1 ≤ 1048576 := by omega
  exact walkEncodeSegment0 w x0_0 x0_1 x0_2 x0_3 x0_4 x0_5 x0_6 x0_7 x0_8 x0_9 a0_0 n0_0 c0_0 a0_1 n0_1 c0_1
    [stD n0_0 z0_0, bytesD z0_1]
    m1
    m2
     L0_0.length
    [bytesD L0_0] [mkD (1) (bytesD L0_0)]
    C1
    (1048576 - (n0_0 : Int) - (n0_1 : Int)) (by omega)
    (by
      intro W
      exact szSegment_d W x0_0 x0_1 x0_2 x0_3 x0_4 x0_5 x0_6 x0_7 x0_8 x0_9 a0_0 n0_0 c0_0 a0_1 n0_1 c0_1 (1048576) (1048576 - (n0_0 : Int)) (1048576 - (n0_0 : Int) - (n0_1 : Int)) (by omega) (fun V => szSt_d _ _ _ _ _ rfl (by omega) (by omega) V) (by omega) (fun V => szB_d _ _ _ _ _ rfl (by omega) (by omega) V))
    (by
      intro W hb
      exact toSegment_d W x0_0 x0_1 x0_2 x0_3 x0_4 x0_5 x0_6 x0_7 x0_8 x0_9 a0_0 n0_0 c0_0 a0_1 n0_1 c0_1 (stD n0_0 z0_0) (bytesD z0_1) (fun V hv => toSt_d z0_0 _ _ _ V hn0_0 ((ha0_0.below hb (Nat.le_refl _)).below hv (Nat.le_refl _)) m0_0) (fun V hv => toB_d z0_1 _ _ _ V hn0_1 ((ha0_1.below hb (Nat.le_refl _)).below hv (Nat.le_refl _)) m0_1))
    (by
      intro W p0_a0 p0_k0 p0_a1 p0_k1 B0 bs0 hb g0
      obtain ⟨_, _, u0_f0, _, ee, eb0, u0_h0, u0_r0⟩ := holdsL_cons.1 g0
      cases ee
      obtain ⟨_, _, u0_f1, _, ee, eb1, u0_h1, u0_r1⟩ := holdsL_cons.1 u0_r0
      cases ee
      obtain ⟨ar0_0, ln0_0, _, cp0_0⟩ := stD_read u0_h0
      obtain ⟨ar0_1, ln0_1, cp0_1⟩ := bytes_read u0_h1 ha0_1.1
      refine (hS _ _ _ _ _ _ W ln0_0 ar0_0 cp0_0 m0_0 ln0_1 ar0_1 cp0_1 m0_1 (hpre w W hp hb)).mono ?_
      rintro e w' ⟨v0_0, rfl, o0_0, hb'⟩
      obtain ⟨q0_0, k0_0, rfl, hd0_0⟩ := own_holds o0_0
      exact ⟨q0_0, k0_0, _, rfl, holdsL_cons.2 ⟨_, _, _, _, rfl, rfl, hd0_0, holdsL_nil.2 ⟨rfl, rfl⟩⟩, by simp only [List.append_nil]; exact own_nodup _, hb'⟩)
    (by
      intro W p0_a0 p0_k0 p0_a1 p0_k1 B0 bs0 hb g0
      obtain ⟨_, _, u0_f0, _, ee, eb0, u0_h0, u0_r0⟩ := holdsL_cons.1 g0
      cases ee
      obtain ⟨_, _, u0_f1, _, ee, eb1, u0_h1, u0_r1⟩ := holdsL_cons.1 u0_r0
      cases ee
      obtain ⟨ar0_0, ln0_0, _, cp0_0⟩ := stD_read u0_h0
      obtain ⟨ar0_1, ln0_1, cp0_1⟩ := bytes_read u0_h1 ha0_1.1
      refine (hI _ _ _ _ _ _ W ln0_0 ar0_0 cp0_0 m0_0 ln0_1 ar0_1 cp0_1 m0_1 (hpre w W hp hb)).mono ?_
      rintro e w' ⟨v0_0, rfl, o0_0, hb'⟩
      obtain ⟨q0_0, k0_0, rfl, hd0_0⟩ := own_holds o0_0
      exact ⟨q0_0, k0_0, _, rfl, holdsL_cons.2 ⟨_, _, _, _, rfl, rfl, hd0_0, holdsL_nil.2 ⟨rfl, rfl⟩⟩, by simp only [List.append_nil]; exact own_nodup _, hb'⟩)
    (by
      intro W pa0 pk0 pa1 pk1 qa0 qk0 qa1 qk1 B1 B2 b1 b2 h1 h2
      obtain ⟨_, _, uf0, _, ee, eb0, uh0, ur0⟩ := holdsL_cons.1 h1
      cases ee
      obtain ⟨_, _, uf1, _, ee, eb1, uh1, ur1⟩ := holdsL_cons.1 ur0
      cases ee
      obtain ⟨_, _, vf0, _, ee, eb0, vh0, vr0⟩ := holdsL_cons.1 h2
      cases ee
      obtain ⟨_, _, vf1, _, ee, eb1, vh1, vr1⟩ := holdsL_cons.1 vr0
      cases ee
      exact eqSegment_d W x0_0 x0_1 x0_2 x0_3 x0_4 x0_5 x0_6 x0_7 x0_8 x0_9 pa0 n0_0 pk0 pa1 n0_1 pk1 qa0 qk0 qa1 qk1 (fun V hv => eqSt_d z0_0 _ _ _ _ _ _ _ _ _ V (Holds.next uh0 hv) (Holds.next vh0 hv) m0_0) (fun V hv => eqB_d z0_1 _ _ _ _ _ _ _ _ _ V (Holds.next uh1 hv) (Holds.next vh1 hv) m0_1))
    (by
      intro W pa0 pk0 qa0 qk0 B1 B2 b1 b2 h1 h2
      obtain ⟨_, _, uf0, _, ee, eb0, uh0, ur0⟩ := holdsL_cons.1 h1
      cases ee
      obtain ⟨_, _, vf0, _, ee, eb0, vh0, vr0⟩ := holdsL_cons.1 h2
      cases ee
      exact eqB_d L0_0 _ _ _ _ _ _ _ _ _ W uh0 vh0 len0_0)
    ((1 + 2 * n0_0 + n0_1 : Nat) : Int) (by omega)
    (by
      intro W pa0 pk0 pa1 pk1 B bs h hnd
      refine (markSegment_d W x0_0 x0_1 x0_2 x0_3 x0_4 x0_5 x0_6 x0_7 x0_8 x0_9 pa0 n0_0 pk0 pa1 n0_1 pk1 (stD n0_0 z0_0) (mkD (1) (stD n0_0 z0_0)) (bytesD z0_1) (mkD (1 + 2 * n0_0) (bytesD z0_1)) ((1 : Nat) : Int) ((1 + 2 * n0_0 : Nat) : Int) ((1 + 2 * n0_0 + n0_1 : Nat) : Int) B bs (fun V f hh hn => markSt_d z0_0 _ _ _ _ _ (1) V hh hn (by omega) (by omega)) (fun V f hh hn => markB_d z0_1 _ _ _ _ _ (1 + 2 * n0_0) V hh hn (by omega)) h hnd).mono ?_
      rintro e w' ⟨rfl, _, hon⟩
      exact ⟨rfl, hon⟩)
    ((1 + L0_0.length : Nat) : Int) (by omega)
    (by
      intro W pa0 pk0 B bs h hnd
      obtain ⟨_, _, uf0, _, ee, eb0, uh0, ur0⟩ := holdsL_cons.1 h
      cases ee
      obtain ⟨_, rfl⟩ := holdsL_nil.1 ur0
      subst eb0
      rw [List.append_nil] at hnd
      refine (markB_d L0_0 _ _ _ B _ (1) W uh0 hnd (by omega)).mono ?_
      rintro e w' ⟨rfl, hm, hon⟩
      exact ⟨rfl, holdsL_one hm, by rw [List.append_nil]; exact hon⟩)
    (by
      intro W pa0 pk0 B bs h
      obtain ⟨_, _, uf0, _, ee, eb0, uh0, ur0⟩ := holdsL_cons.1 h
      cases ee
      exact heldB_d L0_0 _ _ _ _ _ (1) W rfl uh0 (by omega))
end Go.Proofs.YthcmgnhfgplajaaDoor
