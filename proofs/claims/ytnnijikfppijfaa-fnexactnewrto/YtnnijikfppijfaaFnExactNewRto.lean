/-
At every input the law FnExactNewRto of the landed program answers true, and its arguments read afterwards as before.
No conditions.
-/
import Derived.Test.YtnnijikfppijfaaRows
import Derived.WalkKit
import Derived.ProofKit
import Derived.OpenShut
import Derived.Test.YtnnijikfppijfaaRts
import Derived.ShutString
import Derived.ChangeOld
import Derived.Below
namespace Go.Proofs.Ytnnijikfppijfaa
open Go.ChangeShapes Go.WideShapes Go.ChangeAt Go.RowKit
set_option linter.unusedVariables false
set_option maxRecDepth 100000
set_option maxHeartbeats 4000000 in
theorem walkNewRto0   (r0 : Int) (r1 : Int) (r2 : Int) (r3 : Bool)  (hS : ∀ (w : World), Calls Try.prog 9 #[] w fun e w' => e = .returned (.agg #[.int .i64 r0, .int .i64 r1, .int .i64 r2, .bool r3]) ∧ Below w.heap.size w w') (hI : ∀ (w : World), Calls Try.prog 10 #[] w fun e w' => e = .returned (.agg #[.int .i64 r0, .int .i64 r1, .int .i64 r2, .bool r3]) ∧ Below w.heap.size w w') (w : World) : Calls Try.prog 3 #[] w fun e w' => e = .returned (.bool true) ∧ Below w.heap.size w w' := by
  have CS := hide (fun W => hS W)
  have CI := hide (fun W => hI W)
  clear hS hI
  have CE := hide (fun W => eqRto_walk r0 r1 r2 r3 W)
  go_enter Try.func3, Try.ntmps3
  go_wp2_with fail
  refine (CS.out _).mono ?_
  rintro e w2 ⟨rfl, hb2⟩
  have hal := (Below.refl w2.heap.size w2).alloc (Nat.le_refl _) (.cells #[.int .i64 r0, .int .i64 r1, .int .i64 r2, .bool r3] 23)
  have HB4 := hide (hb2.trans (hal.mono hb2.size))
  have HW4 : Hid (HoldV (w2.alloc (.cells #[.int .i64 r0, .int .i64 r1, .int .i64 r2, .bool r3] 23)) w2.heap.size #[.int .i64 r0, .int .i64 r1, .int .i64 r2, .bool r3] 23) := hide (heap_alloc_new _ _)
  clear hal hb2
  go_wp2_with fail
  generalize hV : w2.alloc (.cells #[.int .i64 r0, .int .i64 r1, .int .i64 r2, .bool r3] 23) = V2 at *
  clear hV
  generalize w2.heap.size = Y at *
  refine (CI.out _).mono ?_
  rintro e w4 ⟨rfl, hb4⟩
  have hal := (Below.refl w4.heap.size w4).alloc (Nat.le_refl _) (.cells #[.int .i64 r0, .int .i64 r1, .int .i64 r2, .bool r3] 23)
  have HB5 := hide ((HB4.out.trans (hb4.mono HB4.out.size)).trans (hal.mono ((HB4.out.trans (hb4.mono HB4.out.size)).size)))
  clear HB4
  have HW5 := hide ((HW4.out.next hb4).next hal)
  have HG5 : Hid (HoldV (w4.alloc (.cells #[.int .i64 r0, .int .i64 r1, .int .i64 r2, .bool r3] 23)) w4.heap.size #[.int .i64 r0, .int .i64 r1, .int .i64 r2, .bool r3] 23) := hide (heap_alloc_new _ _)
  clear HW4 hb4 hal
  have k0 := HW5.out.cell 0 _ rfl; have k1 := HW5.out.cell 1 _ rfl; have k2 := HW5.out.cell 2 _ rfl; have k3 := HW5.out.cell 3 _ rfl
  have g0 := HG5.out.cell 0 _ rfl; have g1 := HG5.out.cell 1 _ rfl; have g2 := HG5.out.cell 2 _ rfl; have g3 := HG5.out.cell 3 _ rfl
  go_wp2_with fail
  refine (CE.out _).mono ?_
  rintro e w5 ⟨rfl, hb5⟩
  have HB6 := hide (HB5.out.trans (hb5.mono HB5.out.size))
  clear hb5
  go_wp2_with fail
  go_ret
  exact ⟨rfl, HB6.out⟩

theorem walkNewRto (w : World) : Calls Try.prog 3 #[] w fun e w' => e = .returned (.bool true) ∧ Below w.heap.size w w' := walkNewRto0 _ _ _ _ specNewRto implNewRto w

theorem own : ownKnob Try.prog.godebug = none := by kernel_rfl
theorem laidOut : laidOutB Try.prog = true := by kernel_rfl
set_option maxRecDepth 100000 in
theorem fnExactNewRto_lifted (os : Os) (started : os.Started) (H : Type) (enc : TypeId × Value → H) :
    ReturnsInHanded {} Try.checked os 3 .any (Rows.fnExactNewRtoSpec.pre6 enc Try.prog Try.f3 Rows.fnExactNewRtoRow.domain false) (Rows.fnExactNewRtoSpec.post enc Try.prog Try.f3 false true false false) := by
  refine returnsInHanded_of_change (C := Try.checked) own started (by kernel_rfl) Try.func3
    (ChangeSpec.witness6 (enc := enc) (C := Try.checked) false ⟨#[], #[], []⟩ 8 (by kernel_rfl) (by kernel_rfl) (by kernel_rfl) (by kernel_rfl)) ?_
  intro W base args ds gs before hval0 hW hcnd _
  have hval : ∀ (j : Nat) t v, Try.f3.params[j]? = some t → args[j]? = some v → Value.okWide Try.prog W .any base t v := hval0
  have hW' := hW
  obtain ⟨p, q, hA0, hV, rfl, hfz, hnd⟩ := hW
  have hA : DataW.TrodAll enc Try.prog W 0 (fun _ => true) true Try.f3.params.toList args.toList ds p := hA0
  rw [Try.params3] at hA hval
  obtain ⟨hargs, rfl, rfl⟩ := trodAll_nil hA
  obtain rfl : args = #[] := by cases args; simp_all
  obtain ⟨rfl, rfl⟩ := trodVars_none hV
  clear hA0 hval0
  refine (walkNewRto  W ).mono fun e W' ⟨he, bel⟩ => ?_
  subst he
  exact ⟨_, rfl, _, _, _, [], _, [], hW', trodAll_mk1 (shut_bool Try.underlying4 _), trodAll_mk0, rfl, bel.frame _, fun h => by cases h⟩
theorem fnExactNewRto_holds : Rows.FnExactNewRtoSaid :=
  OpenClaim.holds_of_wide 3 Try.f3 rfl rfl rfl rfl rfl rfl rfl ⟨rfl, rfl, rfl, rfl, rfl⟩ rfl rfl rfl rfl rfl (by kernel_rfl) Try.func3 (by kernel_rfl)
    (of_decide_eq_true (by kernel_rfl)) (by unfold Func.isWrapper; first | (rw [if_pos (by decide +kernel)]; kernel_rfl) | (rw [if_neg (by decide +kernel)]; exact ⟨rfl, rfl⟩))
    (fun os started H enc _ => fnExactNewRto_lifted os started H enc)
end Go.Proofs.Ytnnijikfppijfaa
