/-
At every input the law FnExactCongMss of the landed program answers true, and its arguments read afterwards as before.
No conditions.
-/
import Derived.Test.YthnbehofddeppaaRows
import Derived.WalkKit
import Derived.ProofKit
import Derived.OpenShut
import Derived.Test.YthnbehofddeppaaCgm
import Derived.ShutString
import Derived.ChangeOld
import Derived.Below
namespace Go.Proofs.Ythnbehofddeppaa
open Go.ChangeShapes Go.WideShapes Go.ChangeAt Go.RowKit
set_option linter.unusedVariables false
set_option maxRecDepth 100000
set_option maxHeartbeats 4000000 in
theorem walkCongMss0 (x0 : Int) (x1 : Int) (x2 : Int) (x3 : Int) (a0 : Int) (r0 : Int) (r1 : Int) (r2 : Int) (r3 : Int) (code : Int) (hS : ExCCong 4 #[.agg #[.int .i64 x0, .int .i64 x1, .int .i64 x2, .int .i64 x3], .int .i64 a0] r0 r1 r2 r3 code) (hI : ExCCong 6 #[.agg #[.int .i64 x0, .int .i64 x1, .int .i64 x2, .int .i64 x3], .int .i64 a0] r0 r1 r2 r3 code) (w : World) : Calls Try.prog 3 #[.agg #[.int .i64 x0, .int .i64 x1, .int .i64 x2, .int .i64 x3], .int .i64 a0] w fun e w' => e = .returned (.bool true) ∧ Below w.heap.size w w' := by
  have CT := hide (fun W => toCong_walk x0 x1 x2 x3 W)
  have HB := hide (BoxV.start w #[.int .i64 x0, .int .i64 x1, .int .i64 x2, .int .i64 x3] 23)
  have CS := hide (fun W => hS W)
  have CI := hide (fun W => hI W)
  clear hS hI
  have CE := hide (fun W => eqCong_walk r0 r1 r2 r3 W)
  go_enter Try.func3, Try.ntmps3
  go_wp2_with fail
  generalize w.alloc (.cells #[.int .i64 x0, .int .i64 x1, .int .i64 x2, .int .i64 x3] 23) = W at *
  refine (CT.out _).mono ?_
  rintro e w1 ⟨rfl, hb1⟩
  have HB1 := hide (HB.out.next hb1)
  clear HB hb1
  go_wp2_with fail
  refine (CS.out _).mono ?_
  rintro e w2 ⟨rfl, hb2⟩
  have HB2 := hide (HB1.out.next hb2)
  clear HB1 hb2
  have hal := (Below.refl w2.heap.size w2).alloc (Nat.le_refl _) (.cells #[.int .i64 r0, .int .i64 r1, .int .i64 r2, .int .i64 r3] 24)
  have HB3 := hide (HB2.out.next hal)
  have HW : Hid (HoldV (w2.alloc (.cells #[.int .i64 r0, .int .i64 r1, .int .i64 r2, .int .i64 r3] 24)) w2.heap.size #[.int .i64 r0, .int .i64 r1, .int .i64 r2, .int .i64 r3] 24) := hide (heap_alloc_new _ _)
  clear HB2 hal
  have k0 := HB3.out.cell 0 _ rfl; have k1 := HB3.out.cell 1 _ rfl; have k2 := HB3.out.cell 2 _ rfl; have k3 := HB3.out.cell 3 _ rfl
  go_wp2_with fail
  generalize hV : w2.alloc (.cells #[.int .i64 r0, .int .i64 r1, .int .i64 r2, .int .i64 r3] 24) = V2 at *
  clear hV k0 k1 k2 k3
  generalize w2.heap.size = Y at *
  refine (CT.out _).mono ?_
  rintro e w3 ⟨rfl, hb3⟩
  have HB4 := hide (HB3.out.next hb3)
  have HW4 := hide (HW.out.next hb3)
  clear HB3 HW hb3
  go_wp2_with fail
  refine (CI.out _).mono ?_
  rintro e w4 ⟨rfl, hb4⟩
  have hal := (Below.refl w4.heap.size w4).alloc (Nat.le_refl _) (.cells #[.int .i64 r0, .int .i64 r1, .int .i64 r2, .int .i64 r3] 24)
  have HB5 := hide ((HB4.out.next hb4).next hal).1
  clear HB4
  have HW5 := hide ((HW4.out.next hb4).next hal)
  have HG5 : Hid (HoldV (w4.alloc (.cells #[.int .i64 r0, .int .i64 r1, .int .i64 r2, .int .i64 r3] 24)) w4.heap.size #[.int .i64 r0, .int .i64 r1, .int .i64 r2, .int .i64 r3] 24) := hide (heap_alloc_new _ _)
  clear HW4 hb4 hal
  have k0 := HW5.out.cell 0 _ rfl; have k1 := HW5.out.cell 1 _ rfl; have k2 := HW5.out.cell 2 _ rfl; have k3 := HW5.out.cell 3 _ rfl
  have g0 := HG5.out.cell 0 _ rfl; have g1 := HG5.out.cell 1 _ rfl; have g2 := HG5.out.cell 2 _ rfl; have g3 := HG5.out.cell 3 _ rfl
  go_wp2_with fail
  refine (CE.out _).mono ?_
  rintro e w5 ⟨rfl, hb5⟩
  have HB6 := hide (HB5.out.trans (hb5.mono HB5.out.size))
  clear hb5
  go_wp2_with fail
  go_ret
  exact ⟨rfl, HB6.out⟩

theorem walkCongMss (x0 x1 x2 x3 a1 : Int) (w : World) (_ : (Lit.int .i64 a1).wf = true) : Calls Try.prog 3 #[.agg #[.int .i64 x0, .int .i64 x1, .int .i64 x2, .int .i64 x3], .int .i64 a1] w fun e w' => e = .returned (.bool true) ∧ Below w.heap.size w w' := by
  cases h : cgB x0 x1 x2 x3 && inB a1 1 x0 with
  | false => exact walkCongMss0 x0 x1 x2 x3 a1 _ _ _ _ _ (specCongMss_bad x0 x1 x2 x3 a1 h) (face_CongMss x0 x1 x2 x3 a1 _ _ _ _ _ (after_bad x0 x1 x2 x3 4 a1 _ (by rw [← mssB_eq]; exact h))) w
  | true =>
    have h1 := (Bool.and_eq_true _ _ ▸ h : _ ∧ _)
    obtain ⟨⟨m0, m1⟩, ⟨c0, c1⟩, ⟨t0, t1⟩, ⟨n0, n1⟩⟩ := cgB_iff.1 h1.1
    obtain ⟨a0, a2⟩ := inB_iff.1 h1.2
    exact walkCongMss0 x0 x1 x2 x3 a1 _ _ _ _ _ (specMss_ok x0 x1 x2 x3 a1 h1.1 h1.2) (face_CongMss x0 x1 x2 x3 a1 _ _ _ _ _ (by rw [show (inB a1 1 65535 && decide (a1 ≤ x0)) = true by rw [inB_iff.2 ⟨a0, by omega⟩, decide_eq_true a2]; rfl]; exact after_withMss x0 x1 x2 x3 a1 _ _ _ _ h1.1 (with_walk x0 x1 x2 x3 a1))) w

theorem own : ownKnob Try.prog.godebug = none := by kernel_rfl
theorem laidOut : laidOutB Try.prog = true := by kernel_rfl
set_option maxRecDepth 100000 in
theorem fnExactCongMss_lifted (os : Os) (started : os.Started) (H : Type) (enc : TypeId × Value → H) :
    ReturnsInHanded {} Try.checked os 3 .any (Rows.fnExactCongMssSpec.pre6 enc Try.prog Try.f3 Rows.fnExactCongMssRow.domain false) (Rows.fnExactCongMssSpec.post enc Try.prog Try.f3 false true false false) := by
  refine returnsInHanded_of_change (C := Try.checked) own started (by kernel_rfl) Try.func3
    (ChangeSpec.witness6 (enc := enc) (C := Try.checked) false ⟨#[], #[.agg #[.int .i64 0, .int .i64 0, .int .i64 0, .int .i64 0], .int .i64 0], []⟩ 8 (by kernel_rfl) (by kernel_rfl) (by kernel_rfl) (by kernel_rfl)) ?_
  intro W base args ds gs before hval0 hW hcnd _
  have hval : ∀ (j : Nat) t v, Try.f3.params[j]? = some t → args[j]? = some v → Value.okWide Try.prog W .any base t v := hval0
  have hW' := hW
  obtain ⟨p, q, hA0, hV, rfl, hfz, hnd⟩ := hW
  have hA : DataW.TrodAll enc Try.prog W 0 (fun _ => true) true Try.f3.params.toList args.toList ds p := hA0
  rw [Try.params3] at hA hval
  obtain ⟨v0, vs0, d0, ds0, p0, q0, hargs, rfl, rfl, h0, r0⟩ := trodAll_cons hA
  obtain ⟨v1, vs1, d1, ds1, p1, q1, rfl, rfl, rfl, h1, r1⟩ := trodAll_cons r0
  obtain ⟨rfl, rfl, rfl⟩ := trodAll_nil r1
  obtain rfl : args = #[v0, v1] := by cases args; simp_all
  obtain ⟨rfl, rfl⟩ := trodVars_none hV
  have k0 := h0
  have lt0 : ∀ x ∈ p0, x.block < W.heap.size := by obtain ⟨m, hm⟩ := k0; exact DataW.trod_lt m _ _ _ hm
  obtain ⟨x0_0, x0_1, x0_2, x0_3, rfl⟩ := openCong (hval 0 23 v0 rfl rfl) h0
  obtain ⟨a1, rfl, rfl, rfl, w1⟩ := open_int Try.underlying2 (hval 1 2 v1 rfl rfl) h1
  clear hA0 hval0
  refine (walkCongMss x0_0 x0_1 x0_2 x0_3   a1 W  w1).mono fun e W' ⟨he, bel⟩ => ?_
  subst he
  exact ⟨_, rfl, _, _, _, [], _, [], hW', trodAll_mk1 (shut_bool Try.underlying4 _), (trodAll_cons_mk (Below.trod laidOut (by kernel_rfl) (of_decide_eq_true (by kernel_rfl)) k0 bel lt0) (trodAll_cons_mk (shut_int Try.underlying2 w1) trodAll_mk0)), rfl, bel.frame _, fun h => by cases h⟩
theorem fnExactCongMss_holds : Rows.FnExactCongMssSaid :=
  OpenClaim.holds_of_wide 3 Try.f3 rfl rfl rfl rfl rfl rfl rfl ⟨rfl, rfl, rfl, rfl, rfl⟩ rfl rfl rfl rfl rfl (by kernel_rfl) Try.func3 (by kernel_rfl)
    (of_decide_eq_true (by kernel_rfl)) (by unfold Func.isWrapper; first | (rw [if_pos (by decide +kernel)]; kernel_rfl) | (rw [if_neg (by decide +kernel)]; exact ⟨rfl, rfl⟩))
    (fun os started H enc _ => fnExactCongMss_lifted os started H enc)
end Go.Proofs.Ythnbehofddeppaa
