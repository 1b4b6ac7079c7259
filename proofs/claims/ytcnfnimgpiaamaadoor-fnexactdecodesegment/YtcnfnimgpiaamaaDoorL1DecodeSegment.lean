/-
Contracts of functions of this seat.
-/
import Derived.Test.YtcnfnimgpiaamaaDoorRows
import Derived.WalkKit
import Derived.ProofKit
import Derived.OpenShut
import Derived.Test.YtcnfnimgpiaamaaDoorTys
import Derived.Test.YtcnfnimgpiaamaaDoorL0DecodeSegment
namespace Go.Proofs.YtcnfnimgpiaamaaDoor
open Go.ChangeShapes Go.WideShapes Go.ChangeAt Go.RowKit
set_option linter.unusedVariables false
set_option maxRecDepth 100000
/-- What is wanted of DecodeSegment. -/
def DecodeSegmentP (f : Nat) (Pre : World → Prop) (z0_0 : List Int) (m1 : Int) (m2 : Int) (y0_0 : Int) (y0_1 : Int) (y0_2 : Int) (y0_3 : Int) (y0_4 : Int) (y0_5 : Int) (y0_6 : Int) (y0_7 : Bool) (y0_8 : Int) (y0_9 : Bool) (r0_0 : Nat) (L0_0 : List Int) (L0_1 : List Int) (C1 : Int) : Prop :=
  ∀ (a0_0 : Option Addr) (n0_0 c0_0 : Nat) (W : World), z0_0.length = n0_0 → Arr W a0_0 z0_0 → n0_0 ≤ c0_0 → n0_0 ≤ 1048576 → Pre W → Calls Tryd.prog f #[.slice a0_0 n0_0 c0_0, .int .i64 m1, .int .i64 m2] W fun e w' => ∃ v0_0 v0_1 : Value, e = .returned (.tuple #[.agg #[.int .i64 y0_0, .int .i64 y0_1, .int .i64 y0_2, .int .i64 y0_3, .int .i64 y0_4, .int .i64 y0_5, .int .i64 y0_6, .bool y0_7, .int .i64 y0_8, .bool y0_9, v0_0, v0_1], .int .i64 C1]) ∧ OwnI w' W.heap.size 53 2 v0_0 r0_0 L0_0 ∧ OwnB w' W.heap.size v0_1 L0_1 ∧ (∀ b, v0_0.ownBlock = some b → v0_1.ownBlock ≠ some b) ∧ Below W.heap.size W w'
set_option maxHeartbeats 4000000 in
theorem walkDecodeSegment1 (Pre : World → Prop) (hpre : ∀ (w w' : World), Pre w → Below w.heap.size w w' → Pre w') (z0_0 : List Int) (m1 : Int) (m2 : Int) (y0_0 : Int) (y0_1 : Int) (y0_2 : Int) (y0_3 : Int) (y0_4 : Int) (y0_5 : Int) (y0_6 : Int) (y0_7 : Bool) (y0_8 : Int) (y0_9 : Bool) (r0_0 : Nat) (L0_0 : List Int) (L0_1 : List Int) (C1 : Int) (hS : DecodeSegmentP 12 Pre z0_0 m1 m2 y0_0 y0_1 y0_2 y0_3 y0_4 y0_5 y0_6 y0_7 y0_8 y0_9 r0_0 L0_0 L0_1 C1) (hI : DecodeSegmentP 14 Pre z0_0 m1 m2 y0_0 y0_1 y0_2 y0_3 y0_4 y0_5 y0_6 y0_7 y0_8 y0_9 r0_0 L0_0 L0_1 C1) (len0_0 : r0_0 ≤ 1048576) (rl0_0 : L0_0.length = r0_0 * 2) (len0_1 : L0_1.length ≤ 1048576) (a0_0 : Option Addr) (n0_0 c0_0 : Nat) (w : World) (hn0_0 : z0_0.length = n0_0) (ha0_0 : Arr w a0_0 z0_0) (hy0_0 : n0_0 ≤ 9223372036854775807) (hp : Pre w) :
    Calls Tryd.prog 4 #[.slice a0_0 n0_0 c0_0, .int .i64 m1, .int .i64 m2] w fun e w' => e = .returned (.bool true) ∧ Below w.heap.size w w' := by
  by_cases hbig : 1048576 < (n0_0 : Int)
  · clear hS hI hpre hp hn0_0 ha0_0
    go_enter Tryd.func4, Tryd.ntmps4
    go_wp2_with fail
    go_ret
    exact ⟨rfl, Below.refl _ _⟩
  have m0_0 : n0_0 ≤ 1048576 := by omega
  exact walkDecodeSegment0 w  a0_0 n0_0 c0_0
    [bytesD z0_0]
    m1
    m2
    y0_0 y0_1 y0_2 y0_3 y0_4 y0_5 y0_6 y0_7 y0_8 y0_9 r0_0 L0_1.length
    [stD r0_0 L0_0, bytesD L0_1] [mkD (1) (stD r0_0 L0_0), mkD (1 + 2 * r0_0) (bytesD L0_1)]
    C1
    (by
      omega)
    (by
      intro W hb
      refine (toB_d z0_0 _ _ _ W hn0_0 (ha0_0.below hb (Nat.le_refl _)) m0_0).mono ?_
      rintro e w' ⟨a', k', f, rfl, hd, hn, hb'⟩
      exact ⟨a', k', f ++ [], rfl, holdsL_one hd, by rw [List.append_nil]; exact hn, hb'⟩)
    (by
      intro W p0_a0 p0_k0 B0 bs0 hb g0
      obtain ⟨_, _, u0_f0, _, ee, eb0, u0_h0, u0_r0⟩ := holdsL_cons.1 g0
      cases ee
      obtain ⟨ar0_0, ln0_0, cp0_0⟩ := bytes_read u0_h0 ha0_0.1
      refine (hS _ _ _ W ln0_0 ar0_0 cp0_0 m0_0 (hpre w W hp hb)).mono ?_
      rintro e w' ⟨v0_0, v0_1, rfl, o0_0, o0_1, ap0_0_0_1, hb'⟩
      obtain ⟨q0_0, k0_0, rfl, hd0_0⟩ := ownSt_holds o0_0
      obtain ⟨q0_1, k0_1, rfl, hd0_1⟩ := own_holds o0_1
      exact ⟨q0_0, k0_0, q0_1, k0_1, _, rfl, holdsL_cons.2 ⟨_, _, _, _, rfl, rfl, hd0_0, holdsL_cons.2 ⟨_, _, _, _, rfl, rfl, hd0_1, holdsL_nil.2 ⟨rfl, rfl⟩⟩⟩, by simp only [List.append_nil]; exact own_apart ap0_0_0_1, hb'⟩)
    (by
      intro W p0_a0 p0_k0 B0 bs0 hb g0
      obtain ⟨_, _, u0_f0, _, ee, eb0, u0_h0, u0_r0⟩ := holdsL_cons.1 g0
      cases ee
      obtain ⟨ar0_0, ln0_0, cp0_0⟩ := bytes_read u0_h0 ha0_0.1
      refine (hI _ _ _ W ln0_0 ar0_0 cp0_0 m0_0 (hpre w W hp hb)).mono ?_
      rintro e w' ⟨v0_0, v0_1, rfl, o0_0, o0_1, ap0_0_0_1, hb'⟩
      obtain ⟨q0_0, k0_0, rfl, hd0_0⟩ := ownSt_holds o0_0
      obtain ⟨q0_1, k0_1, rfl, hd0_1⟩ := own_holds o0_1
      exact ⟨q0_0, k0_0, q0_1, k0_1, _, rfl, holdsL_cons.2 ⟨_, _, _, _, rfl, rfl, hd0_0, holdsL_cons.2 ⟨_, _, _, _, rfl, rfl, hd0_1, holdsL_nil.2 ⟨rfl, rfl⟩⟩⟩, by simp only [List.append_nil]; exact own_apart ap0_0_0_1, hb'⟩)
    (by
      intro W pa0 pk0 qa0 qk0 B1 B2 b1 b2 h1 h2
      obtain ⟨_, _, uf0, _, ee, eb0, uh0, ur0⟩ := holdsL_cons.1 h1
      cases ee
      obtain ⟨_, _, vf0, _, ee, eb0, vh0, vr0⟩ := holdsL_cons.1 h2
      cases ee
      exact eqB_d z0_0 _ _ _ _ _ _ _ _ _ W uh0 vh0 m0_0)
    (by
      intro W pa0 pk0 pa1 pk1 qa0 qk0 qa1 qk1 B1 B2 b1 b2 h1 h2
      obtain ⟨_, _, uf0, _, ee, eb0, uh0, ur0⟩ := holdsL_cons.1 h1
      cases ee
      obtain ⟨_, _, uf1, _, ee, eb1, uh1, ur1⟩ := holdsL_cons.1 ur0
      cases ee
      obtain ⟨_, _, vf0, _, ee, eb0, vh0, vr0⟩ := holdsL_cons.1 h2
      cases ee
      obtain ⟨_, _, vf1, _, ee, eb1, vh1, vr1⟩ := holdsL_cons.1 vr0
      cases ee
      exact eqSegment_d W y0_0 y0_1 y0_2 y0_3 y0_4 y0_5 y0_6 y0_7 y0_8 y0_9 pa0 (r0_0) pk0 pa1 (L0_1.length) pk1 qa0 qk0 qa1 qk1 (fun V hv => eqSt_d L0_0 _ _ _ _ _ _ _ _ _ V (Holds.next uh0 hv) (Holds.next vh0 hv) len0_0) (fun V hv => eqB_d L0_1 _ _ _ _ _ _ _ _ _ V (Holds.next uh1 hv) (Holds.next vh1 hv) len0_1))
    ((1 + n0_0 : Nat) : Int) (by omega)
    (by
      intro W pa0 pk0 B bs h hnd
      obtain ⟨_, _, uf0, _, ee, eb0, uh0, ur0⟩ := holdsL_cons.1 h
      cases ee
      obtain ⟨_, rfl⟩ := holdsL_nil.1 ur0
      subst eb0
      rw [List.append_nil] at hnd
      refine (markB_d z0_0 _ _ _ B _ (1) W uh0 hnd (by omega)).mono ?_
      rintro e w' ⟨rfl, _, hon⟩
      exact ⟨rfl, by rw [List.append_nil]; exact hon⟩)
    ((1 + 2 * r0_0 + L0_1.length : Nat) : Int) (by omega)
    (by
      intro W pa0 pk0 pa1 pk1 B bs h hnd
      exact markSegment_d W y0_0 y0_1 y0_2 y0_3 y0_4 y0_5 y0_6 y0_7 y0_8 y0_9 pa0 (r0_0) pk0 pa1 (L0_1.length) pk1 (stD r0_0 L0_0) (mkD (1) (stD r0_0 L0_0)) (bytesD L0_1) (mkD (1 + 2 * r0_0) (bytesD L0_1)) ((1 : Nat) : Int) ((1 + 2 * r0_0 : Nat) : Int) ((1 + 2 * r0_0 + L0_1.length : Nat) : Int) B bs (fun V f hh hn => markSt_d L0_0 _ _ _ _ _ (1) V hh hn (by omega) (by omega)) (fun V f hh hn => markB_d L0_1 _ _ _ _ _ (1 + 2 * r0_0) V hh hn (by omega)) h hnd)
    (by
      intro W pa0 pk0 pa1 pk1 B bs h
      exact heldSegment_d W y0_0 y0_1 y0_2 y0_3 y0_4 y0_5 y0_6 y0_7 y0_8 y0_9 pa0 (r0_0) pk0 pa1 (L0_1.length) pk1 (mkD (1) (stD r0_0 L0_0)) (mkD (1 + 2 * r0_0) (bytesD L0_1)) ((1 : Nat) : Int) ((1 + 2 * r0_0 : Nat) : Int) ((1 + 2 * r0_0 + L0_1.length : Nat) : Int) B bs (by omega) (fun V f hh => heldSt_d L0_0 _ _ _ _ _ (1) V rl0_0 hh (by omega) (by omega)) (by omega) (fun V f hh => heldB_d L0_1 _ _ _ _ _ (1 + 2 * r0_0) V rfl hh (by omega)) h)
end Go.Proofs.YtcnfnimgpiaamaaDoor
