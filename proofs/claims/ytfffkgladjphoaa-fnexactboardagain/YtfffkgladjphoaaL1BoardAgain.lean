/-
Contracts of functions of this seat.
-/
import Derived.Test.YtfffkgladjphoaaRows
import Derived.WalkKit
import Derived.ProofKit
import Derived.OpenShut
import Derived.Test.YtfffkgladjphoaaL0BoardAgain
namespace Go.Proofs.Ytfffkgladjphoaa
open Go.ChangeShapes Go.WideShapes Go.ChangeAt Go.RowKit
set_option linter.unusedVariables false
set_option maxRecDepth 100000
/-- What is wanted of BoardAgain. -/
def BoardAgainP (f : Nat) (Pre : World → Prop) (x0_0 : Int) (x0_1 : Int) (z0_0 : List PieceM) (m1 : Int) (y0_0 : Int) (y0_1 : Int) (L0_0 : List PieceM) (y1_0 : Int) (y1_1 : Int) (y1_2 : Int) (y1_3 : Int) (y1_4 : Bool) (y1_5 : Bool) (C2 : Int) : Prop :=
  ∀ (a0_0 : Option Addr) (n0_0 c0_0 : Nat) (W : World), z0_0.length = n0_0 → ArrP W a0_0 (z0_0.flatMap valPiece) → n0_0 ≤ c0_0 → n0_0 ≤ 1048576 → Pre W → Calls Try.prog f #[.agg #[.int .i64 x0_0, .int .i64 x0_1, .slice a0_0 n0_0 c0_0], .int .i64 m1] W fun e w' => ∃ v0_0 : Value, e = .returned (.tuple #[.agg #[.int .i64 y0_0, .int .i64 y0_1, v0_0], .agg #[.int .i64 y1_0, .int .i64 y1_1, .int .i64 y1_2, .int .i64 y1_3, .bool y1_4, .bool y1_5], .int .i64 C2]) ∧ OwnP w' W.heap.size v0_0 L0_0 ∧ Below W.heap.size W w'
set_option maxHeartbeats 4000000 in
theorem walkBoardAgain1 (Pre : World → Prop) (hpre : ∀ (w w' : World), Pre w → Below w.heap.size w w' → Pre w') (x0_0 : Int) (x0_1 : Int) (z0_0 : List PieceM) (m1 : Int) (y0_0 : Int) (y0_1 : Int) (L0_0 : List PieceM) (y1_0 : Int) (y1_1 : Int) (y1_2 : Int) (y1_3 : Int) (y1_4 : Bool) (y1_5 : Bool) (C2 : Int) (hS : BoardAgainP 12 Pre x0_0 x0_1 z0_0 m1 y0_0 y0_1 L0_0 y1_0 y1_1 y1_2 y1_3 y1_4 y1_5 C2) (hI : BoardAgainP 13 Pre x0_0 x0_1 z0_0 m1 y0_0 y0_1 L0_0 y1_0 y1_1 y1_2 y1_3 y1_4 y1_5 C2) (len0_0 : L0_0.length ≤ 1048576) (a0_0 : Option Addr) (n0_0 c0_0 : Nat) (w : World) (hn0_0 : z0_0.length = n0_0) (ha0_0 : ArrP w a0_0 (z0_0.flatMap valPiece)) (hy0_0 : n0_0 ≤ 9223372036854775807) (hp : Pre w) :
    Calls Try.prog 4 #[.agg #[.int .i64 x0_0, .int .i64 x0_1, .slice a0_0 n0_0 c0_0], .int .i64 m1] w fun e w' => e = .returned (.bool true) ∧ Below w.heap.size w w' := by
  by_cases hbig0 : 1048576 < (n0_0 : Int)
  · have HZ := hide (fun W => szBoard_big0 x0_0 x0_1 a0_0 n0_0 c0_0 W (by omega) hbig0 hy0_0)
    have HX := hide (Keep.new w (.cells #[.int .i64 x0_0, .int .i64 x0_1, .slice a0_0 n0_0 c0_0] 24))
    have HW := hide ((Below.refl w.heap.size w).alloc (Nat.le_refl _) (.cells #[.int .i64 x0_0, .int .i64 x0_1, .slice a0_0 n0_0 c0_0] 24))
    clear hpre hp hS hI hn0_0 ha0_0
    go_enter Try.func4, Try.ntmps4
    go_wp2_with fail
    refine (HZ.out _).mono ?_
    rintro e w1 ⟨rfl, hb1⟩
    go_wp2_with fail
    go_ret
    exact ⟨rfl, below_on HW.out hb1⟩
  have m0_0 : n0_0 ≤ 1048576 := by omega
  exact walkBoardAgain0 w x0_0 x0_1 a0_0 n0_0 c0_0
    [dPieceS z0_0]
    m1
    y0_0 y0_1 L0_0.length
    [dPieceS L0_0] [mkD (1) (dPieceS L0_0)]
    y1_0 y1_1 y1_2 y1_3 y1_4 y1_5 
    C2
    (1048576 - (n0_0 : Int)) (by omega)
    (by
      intro W
      exact szBoard_d W x0_0 x0_1 a0_0 n0_0 c0_0 (1048576) (1048576 - (n0_0 : Int)) (by omega) (fun V => szP_d _ _ _ _ _ rfl (by omega) (by omega) V))
    (by
      intro W hb
      exact toBoard_d W x0_0 x0_1 a0_0 n0_0 c0_0 (dPieceS z0_0) (fun V hv => toP_d z0_0 _ _ _ V hn0_0 ((ha0_0.below hb (Nat.le_refl _)).below hv (Nat.le_refl _)) m0_0))
    (by
      intro W p0_a0 p0_k0 B0 bs0 hb g0
      obtain ⟨_, _, u0_f0, _, ee, eb0, u0_h0, u0_r0⟩ := holdsL_cons.1 g0
      cases ee
      obtain ⟨ar0_0, _, cp0_0⟩ := pieces_read u0_h0 hn0_0
      refine (hS _ _ _ W hn0_0 ar0_0 cp0_0 m0_0 (hpre w W hp hb)).mono ?_
      rintro e w' ⟨v0_0, rfl, o0_0, hb'⟩
      obtain ⟨q0_0, k0_0, rfl, hd0_0⟩ := ownP_holds o0_0
      exact ⟨q0_0, k0_0, _, rfl, holdsL_cons.2 ⟨_, _, _, _, rfl, rfl, hd0_0, holdsL_nil.2 ⟨rfl, rfl⟩⟩, by simp only [List.append_nil]; exact own_nodupP _, hb'⟩)
    (by
      intro W p0_a0 p0_k0 B0 bs0 hb g0
      obtain ⟨_, _, u0_f0, _, ee, eb0, u0_h0, u0_r0⟩ := holdsL_cons.1 g0
      cases ee
      obtain ⟨ar0_0, _, cp0_0⟩ := pieces_read u0_h0 hn0_0
      refine (hI _ _ _ W hn0_0 ar0_0 cp0_0 m0_0 (hpre w W hp hb)).mono ?_
      rintro e w' ⟨v0_0, rfl, o0_0, hb'⟩
      obtain ⟨q0_0, k0_0, rfl, hd0_0⟩ := ownP_holds o0_0
      exact ⟨q0_0, k0_0, _, rfl, holdsL_cons.2 ⟨_, _, _, _, rfl, rfl, hd0_0, holdsL_nil.2 ⟨rfl, rfl⟩⟩, by simp only [List.append_nil]; exact own_nodupP _, hb'⟩)
    (by
      intro W pa0 pk0 qa0 qk0 B1 B2 b1 b2 h1 h2
      obtain ⟨_, _, uf0, _, ee, eb0, uh0, ur0⟩ := holdsL_cons.1 h1
      cases ee
      obtain ⟨_, _, vf0, _, ee, eb0, vh0, vr0⟩ := holdsL_cons.1 h2
      cases ee
      exact eqBoard_d W x0_0 x0_1 pa0 n0_0 pk0 qa0 qk0 (fun V hv => eqP_d z0_0 _ _ _ _ _ _ _ _ _ V (Holds.next uh0 hv) (Holds.next vh0 hv) m0_0))
    (by
      intro W pa0 pk0 qa0 qk0 B1 B2 b1 b2 h1 h2
      obtain ⟨_, _, uf0, _, ee, eb0, uh0, ur0⟩ := holdsL_cons.1 h1
      cases ee
      obtain ⟨_, _, vf0, _, ee, eb0, vh0, vr0⟩ := holdsL_cons.1 h2
      cases ee
      exact eqBoard_d W y0_0 y0_1 pa0 (L0_0.length) pk0 qa0 qk0 (fun V hv => eqP_d L0_0 _ _ _ _ _ _ _ _ _ V (Holds.next uh0 hv) (Holds.next vh0 hv) len0_0))
    (by
      intro W
      exact eqPiece_walk y1_0 y1_1 y1_2 y1_3 y1_4 y1_5 W)
    ((1 + 6 * n0_0 : Nat) : Int) (by omega)
    (by
      intro W pa0 pk0 B bs h hnd
      refine (markBoard_d W x0_0 x0_1 pa0 n0_0 pk0 (dPieceS z0_0) (mkD (1) (dPieceS z0_0)) ((1 : Nat) : Int) ((1 + 6 * n0_0 : Nat) : Int) B bs (fun V f hh hn => markP_d z0_0 _ _ _ _ _ (1) V hh hn hn0_0 (by omega) (by omega)) h hnd).mono ?_
      rintro e w' ⟨rfl, _, hon⟩
      exact ⟨rfl, hon⟩)
    ((1 + 6 * L0_0.length : Nat) : Int) (by omega)
    (by
      intro W pa0 pk0 B bs h hnd
      exact markBoard_d W y0_0 y0_1 pa0 (L0_0.length) pk0 (dPieceS L0_0) (mkD (1) (dPieceS L0_0)) ((1 : Nat) : Int) ((1 + 6 * L0_0.length : Nat) : Int) B bs (fun V f hh hn => markP_d L0_0 _ _ _ _ _ (1) V hh hn rfl (by omega) (by omega)) h hnd)
    (by
      intro W pa0 pk0 B bs h
      exact heldBoard_d W y0_0 y0_1 pa0 (L0_0.length) pk0 (mkD (1) (dPieceS L0_0)) ((1 : Nat) : Int) ((1 + 6 * L0_0.length : Nat) : Int) B bs (by omega) (fun V f hh => heldP_d L0_0 _ _ _ _ _ (1) V rfl hh (by omega) (by omega)) h)
end Go.Proofs.Ytfffkgladjphoaa
