/-
Contracts of functions of this seat.
-/
import Derived.Test.YtakoagfeiolkjaaDoorRows
import Derived.WalkKit
import Derived.ProofKit
import Derived.OpenShut
import Derived.Test.YtakoagfeiolkjaaDoorTyi
import Derived.Test.YtakoagfeiolkjaaDoorLrq
namespace Go.Proofs.YtakoagfeiolkjaaDoor
open Go.ChangeShapes Go.WideShapes Go.ChangeAt Go.RowKit
set_option linter.unusedVariables false
set_option maxRecDepth 100000
/-- What is wanted of ReadQuote. -/
def ReadQuoteP (f : Nat) (Pre : World → Prop) (z0_0 : List Int) (y0_0 : Int) (y0_1 : Int) (y0_2 : Int) (y0_3 : Int) (y0_4 : Int) (y0_5 : Int) (y0_6 : Int) (C1 : Int) : Prop :=
  ∀ (a0_0 : Option Addr) (n0_0 c0_0 : Nat) (W : World), z0_0.length = n0_0 → Arr W a0_0 z0_0 → n0_0 ≤ c0_0 → n0_0 ≤ 1048576 → Pre W → Calls Tryd.prog f #[.slice a0_0 n0_0 c0_0] W fun e w' => e = .returned (.tuple #[.agg #[.int .i64 y0_0, .int .i64 y0_1, .int .i64 y0_2, .int .i64 y0_3, .int .i64 y0_4, .int .i64 y0_5, .int .i64 y0_6], .int .i64 C1]) ∧ Below W.heap.size W w'
set_option maxHeartbeats 4000000 in
theorem walkReadQuote1 (Pre : World → Prop) (hpre : ∀ (w w' : World), Pre w → Below w.heap.size w w' → Pre w') (z0_0 : List Int) (y0_0 : Int) (y0_1 : Int) (y0_2 : Int) (y0_3 : Int) (y0_4 : Int) (y0_5 : Int) (y0_6 : Int) (C1 : Int) (hS : ReadQuoteP 6 Pre z0_0 y0_0 y0_1 y0_2 y0_3 y0_4 y0_5 y0_6 C1) (hI : ReadQuoteP 8 Pre z0_0 y0_0 y0_1 y0_2 y0_3 y0_4 y0_5 y0_6 C1)  (a0_0 : Option Addr) (n0_0 c0_0 : Nat) (w : World) (hn0_0 : z0_0.length = n0_0) (ha0_0 : Arr w a0_0 z0_0) (hy0_0 : n0_0 ≤ 9223372036854775807) (hp : Pre w) :
    Calls Tryd.prog 3 #[.slice a0_0 n0_0 c0_0] w fun e w' => e = .returned (.bool true) ∧ Below w.heap.size w w' := by
  by_cases hbig : 1048576 < (n0_0 : Int)
  · clear hS hI hpre hp hn0_0 ha0_0
    go_enter Tryd.func3, Tryd.ntmps3
    go_wp2_with fail
    go_ret
    exact ⟨rfl, Below.refl _ _⟩
  have m0_0 : n0_0 ≤ 1048576 := by omega
  exact walkReadQuote0 w  a0_0 n0_0 c0_0
    [bytesD z0_0]
    y0_0 y0_1 y0_2 y0_3 y0_4 y0_5 y0_6 
    C1
    (by
      omega)
    (by
      intro W hb
      refine (toB_d z0_0 _ _ _ W hn0_0 (ha0_0.below hb (Nat.le_refl _)) m0_0).mono ?_
      rintro e w' ⟨a', k', f, rfl, hd, hn, hb'⟩
      exact ⟨a', k', f ++ [], rfl, holdsL_one hd, by rw [List.append_nil]; exact hn, hb'⟩)
    (by
      intro W p0_a0 p0_k0 B0 bs0 hb g0
      obtain ⟨_, _, u0_f0, _, ee, eb0, u0_h0, u0_r0⟩ := holdsL_cons.1 g0
      cases ee
      obtain ⟨ar0_0, ln0_0, cp0_0⟩ := bytes_read u0_h0 ha0_0.1
      refine (hS _ _ _ W ln0_0 ar0_0 cp0_0 m0_0 (hpre w W hp hb)).mono ?_
      rintro e w' ⟨rfl, hb'⟩
      exact ⟨rfl, hb'⟩)
    (by
      intro W p0_a0 p0_k0 B0 bs0 hb g0
      obtain ⟨_, _, u0_f0, _, ee, eb0, u0_h0, u0_r0⟩ := holdsL_cons.1 g0
      cases ee
      obtain ⟨ar0_0, ln0_0, cp0_0⟩ := bytes_read u0_h0 ha0_0.1
      refine (hI _ _ _ W ln0_0 ar0_0 cp0_0 m0_0 (hpre w W hp hb)).mono ?_
      rintro e w' ⟨rfl, hb'⟩
      exact ⟨rfl, hb'⟩)
    (by
      intro W pa0 pk0 qa0 qk0 B1 B2 b1 b2 h1 h2
      obtain ⟨_, _, uf0, _, ee, eb0, uh0, ur0⟩ := holdsL_cons.1 h1
      cases ee
      obtain ⟨_, _, vf0, _, ee, eb0, vh0, vr0⟩ := holdsL_cons.1 h2
      cases ee
      exact eqB_d z0_0 _ _ _ _ _ _ _ _ _ W uh0 vh0 m0_0)
    (by
      intro W
      exact eqQuote_d W y0_0 y0_1 y0_2 y0_3 y0_4 y0_5 y0_6)
end Go.Proofs.YtakoagfeiolkjaaDoor
