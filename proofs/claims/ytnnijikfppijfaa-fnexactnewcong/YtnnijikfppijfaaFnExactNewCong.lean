/-
At every input the law FnExactNewCong of the landed program answers true, and its arguments read afterwards as before.
No conditions.
-/
import Derived.Test.YtnnijikfppijfaaRows
import Derived.WalkKit
import Derived.ProofKit
import Derived.OpenShut
import Derived.Test.YtnnijikfppijfaaCgm
import Derived.ShutString
import Derived.ChangeOld
import Derived.Below
namespace Go.Proofs.Ytnnijikfppijfaa
open Go.ChangeShapes Go.WideShapes Go.ChangeAt Go.RowKit
set_option linter.unusedVariables false
set_option maxRecDepth 100000
set_option maxHeartbeats 4000000 in
theorem walkNewCong0  (a0 : Int) (r0 : Int) (r1 : Int) (r2 : Int) (r3 : Int) (code : Int) (hS : ExCCong 20 #[.int .i64 a0] r0 r1 r2 r3 code) (hI : ExCCong 21 #[.int .i64 a0] r0 r1 r2 r3 code) (w : World) : Calls Try.prog 6 #[.int .i64 a0] w fun e w' => e = .returned (.bool true) ∧ Below w.heap.size w w' := by
  have CS := hide (fun W => hS W)
  have CI := hide (fun W => hI W)
  clear hS hI
  have CE := hide (fun W => eqCong_walk r0 r1 r2 r3 W)
  go_enter Try.func6, Try.ntmps6
  go_wp2_with fail
  refine (CS.out _).mono ?_
  rintro e w2 ⟨rfl, hb2⟩
  have hal := (Below.refl w2.heap.size w2).alloc (Nat.le_refl _) (.cells #[.int .i64 r0, .int .i64 r1, .int .i64 r2, .int .i64 r3] 44)
  have HB4 := hide (hb2.trans (hal.mono hb2.size))
  have HW4 : Hid (HoldV (w2.alloc (.cells #[.int .i64 r0, .int .i64 r1, .int .i64 r2, .int .i64 r3] 44)) w2.heap.size #[.int .i64 r0, .int .i64 r1, .int .i64 r2, .int .i64 r3] 44) := hide (heap_alloc_new _ _)
  clear hal hb2
  go_wp2_with fail
  generalize hV : w2.alloc (.cells #[.int .i64 r0, .int .i64 r1, .int .i64 r2, .int .i64 r3] 44) = V2 at *
  clear hV
  generalize w2.heap.size = Y at *
  refine (CI.out _).mono ?_
  rintro e w4 ⟨rfl, hb4⟩
  have hal := (Below.refl w4.heap.size w4).alloc (Nat.le_refl _) (.cells #[.int .i64 r0, .int .i64 r1, .int .i64 r2, .int .i64 r3] 44)
  have HB5 := hide ((HB4.out.trans (hb4.mono HB4.out.size)).trans (hal.mono ((HB4.out.trans (hb4.mono HB4.out.size)).size)))
  clear HB4
  have HW5 := hide ((HW4.out.next hb4).next hal)
  have HG5 : Hid (HoldV (w4.alloc (.cells #[.int .i64 r0, .int .i64 r1, .int .i64 r2, .int .i64 r3] 44)) w4.heap.size #[.int .i64 r0, .int .i64 r1, .int .i64 r2, .int .i64 r3] 44) := hide (heap_alloc_new _ _)
  clear HW4 hb4 hal
  have k0 := HW5.out.cell 0 _ rfl; have k1 := HW5.out.cell 1 _ rfl; have k2 := HW5.out.cell 2 _ rfl; have k3 := HW5.out.cell 3 _ rfl
  have g0 := HG5.out.cell 0 _ rfl; have g1 := HG5.out.cell 1 _ rfl; have g2 := HG5.out.cell 2 _ rfl; have g3 := HG5.out.cell 3 _ rfl
  go_wp2_with fail
  refine (CE.out _).mono ?_
  rintro e w5 ⟨rfl, hb5⟩
  have HB6 := hide (HB5.out.trans (hb5.mono HB5.out.size))
  clear hb5
  go_wp2_with fail
  go_ret
  exact ⟨rfl, HB6.out⟩

theorem walkNewCong (a0 : Int) (w : World) (_ : (Lit.int .i64 a0).wf = true) : Calls Try.prog 6 #[.int .i64 a0] w fun e w' => e = .returned (.bool true) ∧ Below w.heap.size w w' := by
  cases h : inB a0 1 65535 with
  | false => exact walkNewCong0 a0 _ _ _ _ _ (specNew_bad a0 h) (implNew_bad a0 h) w
  | true => exact walkNewCong0 a0 _ _ _ _ _ (specNew_ok a0 h) (implNew_ok a0 h) w

theorem own : ownKnob Try.prog.godebug = none := by kernel_rfl
theorem laidOut : laidOutB Try.prog = true := by kernel_rfl
set_option maxRecDepth 100000 in
theorem fnExactNewCong_lifted (os : Os) (started : os.Started) (H : Type) (enc : TypeId × Value → H) :
    ReturnsInHanded {} Try.checked os 6 .any (Rows.fnExactNewCongSpec.pre6 enc Try.prog Try.f6 Rows.fnExactNewCongRow.domain false) (Rows.fnExactNewCongSpec.post enc Try.prog Try.f6 false true false false) := by
  refine returnsInHanded_of_change (C := Try.checked) own started (by kernel_rfl) Try.func6
    (ChangeSpec.witness6 (enc := enc) (C := Try.checked) false ⟨#[], #[.int .i64 0], []⟩ 8 (by kernel_rfl) (by kernel_rfl) (by kernel_rfl) (by kernel_rfl)) ?_
  intro W base args ds gs before hval0 hW hcnd _
  have hval : ∀ (j : Nat) t v, Try.f6.params[j]? = some t → args[j]? = some v → Value.okWide Try.prog W .any base t v := hval0
  have hW' := hW
  obtain ⟨p, q, hA0, hV, rfl, hfz, hnd⟩ := hW
  have hA : DataW.TrodAll enc Try.prog W 0 (fun _ => true) true Try.f6.params.toList args.toList ds p := hA0
  rw [Try.params6] at hA hval
  obtain ⟨v0, vs0, d0, ds0, p0, q0, hargs, rfl, rfl, h0, r0⟩ := trodAll_cons hA
  obtain ⟨rfl, rfl, rfl⟩ := trodAll_nil r0
  obtain rfl : args = #[v0] := by cases args; simp_all
  obtain ⟨rfl, rfl⟩ := trodVars_none hV
  obtain ⟨a0, rfl, rfl, rfl, w0⟩ := open_int Try.underlying2 (hval 0 2 v0 rfl rfl) h0
  clear hA0 hval0
  refine (walkNewCong a0 W w0).mono fun e W' ⟨he, bel⟩ => ?_
  subst he
  exact ⟨_, rfl, _, _, _, [], _, [], hW', trodAll_mk1 (shut_bool Try.underlying4 _), (trodAll_cons_mk (shut_int Try.underlying2 w0) trodAll_mk0), rfl, bel.frame _, fun h => by cases h⟩
theorem fnExactNewCong_holds : Rows.FnExactNewCongSaid :=
  OpenClaim.holds_of_wide 6 Try.f6 rfl rfl rfl rfl rfl rfl rfl ⟨rfl, rfl, rfl, rfl, rfl⟩ rfl rfl rfl rfl rfl (by kernel_rfl) Try.func6 (by kernel_rfl)
    (of_decide_eq_true (by kernel_rfl)) (by unfold Func.isWrapper; first | (rw [if_pos (by decide +kernel)]; kernel_rfl) | (rw [if_neg (by decide +kernel)]; exact ⟨rfl, rfl⟩))
    (fun os started H enc _ => fnExactNewCong_lifted os started H enc)
end Go.Proofs.Ytnnijikfppijfaa
