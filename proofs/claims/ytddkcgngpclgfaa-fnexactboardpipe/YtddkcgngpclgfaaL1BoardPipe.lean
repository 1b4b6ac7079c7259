/-
Contracts of functions of this seat.
-/
import Derived.Test.YtddkcgngpclgfaaRows
import Derived.WalkKit
import Derived.ProofKit
import Derived.OpenShut
import Derived.Test.YtddkcgngpclgfaaL0BoardPipe
namespace Go.Proofs.Ytddkcgngpclgfaa
open Go.ChangeShapes Go.WideShapes Go.ChangeAt Go.RowKit
set_option linter.unusedVariables false
set_option maxRecDepth 100000
/-- What is wanted of BoardPipe. -/
def BoardPipeP (f : Nat) (Pre : World → Prop) (x0_0 : Int) (x0_1 : Int) (z0_0 : List PieceM) (C0 : Int) : Prop :=
  ∀ (a0_0 : Option Addr) (n0_0 c0_0 : Nat) (W : World), z0_0.length = n0_0 → ArrP W a0_0 (z0_0.flatMap valPiece) → n0_0 ≤ c0_0 → n0_0 ≤ 1048576 → Pre W → Calls Try.prog f #[.agg #[.int .i64 x0_0, .int .i64 x0_1, .slice a0_0 n0_0 c0_0]] W fun e w' => e = .returned (.int .i64 C0) ∧ Below W.heap.size W w'
set_option maxHeartbeats 4000000 in
theorem walkBoardPipe1 (Pre : World → Prop) (hpre : ∀ (w w' : World), Pre w → Below w.heap.size w w' → Pre w') (x0_0 : Int) (x0_1 : Int) (z0_0 : List PieceM) (C0 : Int) (hS : BoardPipeP 10 Pre x0_0 x0_1 z0_0 C0) (hI : BoardPipeP 12 Pre x0_0 x0_1 z0_0 C0)  (a0_0 : Option Addr) (n0_0 c0_0 : Nat) (w : World) (hn0_0 : z0_0.length = n0_0) (ha0_0 : ArrP w a0_0 (z0_0.flatMap valPiece)) (hy0_0 : n0_0 ≤ 9223372036854775807) (hp : Pre w) :
    Calls Try.prog 3 #[.agg #[.int .i64 x0_0, .int .i64 x0_1, .slice a0_0 n0_0 c0_0]] w fun e w' => e = .returned (.bool true) ∧ Below w.heap.size w w' := by
  by_cases hbig0 : 1048576 < (n0_0 : Int)
  · have HZ := hide (fun W => szBoard_big0 x0_0 x0_1 a0_0 n0_0 c0_0 W (by omega) hbig0 hy0_0)
    have HX := hide (Keep.new w (.cells #[.int .i64 x0_0, .int .i64 x0_1, .slice a0_0 n0_0 c0_0] 24))
    have HW := hide ((Below.refl w.heap.size w).alloc (Nat.le_refl _) (.cells #[.int .i64 x0_0, .int .i64 x0_1, .slice a0_0 n0_0 c0_0] 24))
    clear hpre hp hS hI hn0_0 ha0_0
    go_enter Try.func3, Try.ntmps3
    go_wp2_with fail
    refine (HZ.out _).mono ?_
    rintro e w1 ⟨rfl, hb1⟩
    go_wp2_with fail
    go_ret
    exact ⟨rfl, below_on HW.out hb1⟩
  have m0_0 : n0_0 ≤ 1048576 := by omega
  exact walkBoardPipe0 w x0_0 x0_1 a0_0 n0_0 c0_0
    [dPieceS z0_0]
    C0
    (1048576 - (n0_0 : Int)) (by omega)
    (by
      intro W
      exact szBoard_d W x0_0 x0_1 a0_0 n0_0 c0_0 (1048576) (1048576 - (n0_0 : Int)) (by omega) (fun V => szP_d _ _ _ _ _ rfl (by omega) (by omega) V))
    (by
      intro W hb
      exact toBoard_d W x0_0 x0_1 a0_0 n0_0 c0_0 (dPieceS z0_0) (fun V hv => toP_d z0_0 _ _ _ V hn0_0 ((ha0_0.below hb (Nat.le_refl _)).below hv (Nat.le_refl _)) m0_0))
    (by
      intro W p0_a0 p0_k0 B0 bs0 hb g0
      obtain ⟨_, _, u0_f0, _, ee, eb0, u0_h0, u0_r0⟩ := holdsL_cons.1 g0
      cases ee
      obtain ⟨ar0_0, _, cp0_0⟩ := pieces_read u0_h0 hn0_0
      refine (hS _ _ _ W hn0_0 ar0_0 cp0_0 m0_0 (hpre w W hp hb)).mono ?_
      rintro e w' ⟨rfl, hb'⟩
      exact ⟨rfl, hb'⟩)
    (by
      intro W p0_a0 p0_k0 B0 bs0 hb g0
      obtain ⟨_, _, u0_f0, _, ee, eb0, u0_h0, u0_r0⟩ := holdsL_cons.1 g0
      cases ee
      obtain ⟨ar0_0, _, cp0_0⟩ := pieces_read u0_h0 hn0_0
      refine (hI _ _ _ W hn0_0 ar0_0 cp0_0 m0_0 (hpre w W hp hb)).mono ?_
      rintro e w' ⟨rfl, hb'⟩
      exact ⟨rfl, hb'⟩)
    (by
      intro W pa0 pk0 qa0 qk0 B1 B2 b1 b2 h1 h2
      obtain ⟨_, _, uf0, _, ee, eb0, uh0, ur0⟩ := holdsL_cons.1 h1
      cases ee
      obtain ⟨_, _, vf0, _, ee, eb0, vh0, vr0⟩ := holdsL_cons.1 h2
      cases ee
      exact eqBoard_d W x0_0 x0_1 pa0 n0_0 pk0 qa0 qk0 (fun V hv => eqP_d z0_0 _ _ _ _ _ _ _ _ _ V (Holds.next uh0 hv) (Holds.next vh0 hv) m0_0))
end Go.Proofs.Ytddkcgngpclgfaa
