/-
At every input the law FnSettled of the landed program answers true, and its arguments read afterwards as before.
No conditions.
-/
import Derived.Test.YtnnijikfppijfaaRows
import Derived.WalkKit
import Derived.ProofKit
import Derived.OpenShut
import Derived.Test.YtnnijikfppijfaaLwr
import Derived.Test.YtnnijikfppijfaaRows
import Derived.ShutString
import Derived.ChangeOld
import Derived.Below
namespace Go.Proofs.Ytnnijikfppijfaa
open Go.ChangeShapes Go.WideShapes Go.ChangeAt Go.RowKit
set_option linter.unusedVariables false
set_option maxRecDepth 100000
theorem lwClamp_walk (n : Int) (w : World) : Calls Try.prog 24 #[.int .i64 n] w fun e w' => e = .returned (.int .i64 (wiB n 200 60000)) ∧ w' = w := by
  unfold wiB
  by_cases h1 : n < 200
  · rw [if_pos h1]
    go_enter Try.func24, Try.ntmps24
    go_wp2
    go_ret
    exact ⟨rfl, rfl⟩
  · rw [if_neg h1]
    by_cases h2 : 60000 < n
    · rw [if_pos h2]
      go_enter Try.func24, Try.ntmps24
      go_wp2
      go_ret
      exact ⟨rfl, rfl⟩
    · rw [if_neg h2]
      go_enter Try.func24, Try.ntmps24
      go_wp2
      go_ret
      exact ⟨rfl, rfl⟩
/-- A valid Rto in its box, beside the source. -/
def SetM (w W : World) (g n : Nat) (a : Option Addr) (cap r : Nat) (s v q : Int) (k : Bool) : Prop := LwB w W g n a cap r #[.int .i64 s, .int .i64 v, .int .i64 q, .bool k] 23 ∧ rtoB s v q k = true
set_option maxHeartbeats 8000000 in
theorem walkFnSettled (a0 : Option Addr) (len0 cap0 : Nat) (z0 : List Int) (w : World) (w0 : IsRow .u8 w a0 len0 cap0 z0) :
    Calls Try.prog 7 #[.slice a0 len0 cap0] w fun e w' => e = .returned (.bool true) ∧ Below w.heap.size w w' := by
  obtain ⟨ys, hn, ha⟩ := w0.arr
  have HN := hide hn
  have HA := hide ha
  clear hn ha w0
  by_cases hbig : 1048576 < len0
  · go_enter Try.func7, Try.ntmps7
    go_wp2
    go_ret
    exact ⟨rfl, Below.refl _ _⟩
  · have HY : Hid (ys.length ≤ 2097152) := hide (by rw [HN.out]; omega)
    go_enter Try.func7, Try.ntmps7
    go_wp2_with fail
    refine (lwBegin_walk _ _ _ _ ys _ HN.out HA.out (by omega) (by omega) (by omega)).mono ?_
    rintro e w1 ⟨st, rfl, hs0, hs1, hb1⟩
    have HS1 := hide (LwS.start (n := ys.length) (a := a0) (cap := cap0) hb1 hs0 hs1)
    rw [HN.out] at HS1
    clear hb1
    go_wp2_with fail
    generalize w1.alloc (.cells #[.slice a0 len0 cap0, .int .i64 0, .int .u64 st] 30) = W1 at *
    generalize w1.heap.size = g at *
    clear hs0 hs1
    refine (implNewRto _).mono ?_
    rintro e w2 ⟨rfl, hb2⟩
    have HB2 := hide (LwB.start (HS1.out.next hb2) #[.int .i64 0, .int .i64 0, .int .i64 1000, .bool false] 23)
    clear HS1 hb2
    go_wp2_with fail
    generalize w2.alloc (.cells #[.int .i64 0, .int .i64 0, .int .i64 1000, .bool false] 23) = W2 at *
    generalize w2.heap.size = r at *
    have k0 := HB2.out.2.1.cell 0 _ rfl; have k1 := HB2.out.2.1.cell 1 _ rfl; have k2 := HB2.out.2.1.cell 2 _ rfl; have k3 := HB2.out.2.1.cell 3 _ rfl
    clear k0 k1 k2 k3
    have hK := HB2.out.drew
    clear HB2
    refine wp_region_lex (fun X => LwB w X g len0 a0 cap0 r #[.int .i64 0, .int .i64 0, .int .i64 1000, .bool false] 23) ((0, true) :: (1, false) :: (2, true) :: []) (by kernel_rfl) (by kernel_rfl) (by kernel_rfl) rfl hK ?_
    repeat (first
      | (refine wpLex_take ?_ rfl (by rfl) (fun _ _ _ h => h) ?_ ?_; rotate_left; (intro wq hq; have k0 := hq.2.1.cell 0 _ rfl; have k1 := hq.2.1.cell 1 _ rfl; have k2 := hq.2.1.cell 2 _ rfl; have k3 := hq.2.1.cell 3 _ rfl; first | (go_simp; done) | (go_simp; with_reducible rfl)); simp only [Act.put, List.setIfInBounds_toArray, List.set_cons_zero, List.set_cons_succ])
      | (refine wpLex_act rfl (by rfl) ?_; intro KK hKK; go_simp; (go_at_call 9; refine (specNewRto _).mono ?_; rintro e w3 ⟨rfl, hb3⟩; have hK := hK.next hb3; clear hb3); try go_wp2_with fail; refine hKK.out _ _ hK ?_; clear hKK KK; try simp only [Act.put, List.setIfInBounds_toArray, List.set_cons_zero, List.set_cons_succ]))
    refine wpLex_nil ?_
    have HM3 := hide (⟨hK, rfl⟩ : SetM w w3 g len0 a0 cap0 r 0 0 1000 false)
    clear hK
    go_wp2_with fail
    refine (HM3.out.1.1.draw HN.out HA.out HY.out 10 (by omega) (by omega)).mono ?_
    rintro e w4 ⟨x4, rfl, p4, q4, hg4, hs4⟩
    have HM4 := hide (⟨HM3.out.1.step hg4 hs4, HM3.out.2⟩ : SetM w w4 g len0 a0 cap0 r 0 0 1000 false)
    clear HM3 hg4 hs4
    go_wp2_with fail
    go_loopw [5] (fun t w2 => ∃ i : Int, t = .int .i64 i ∧ 0 ≤ i ∧ i < 10 ∧ Hid (∃ s v q k, SetM w w2 g len0 a0 cap0 r s v q k)) (fun t _ => (intOf t).toNat)
    case atStart => exact ⟨x4, rfl, p4, q4, hide ⟨_, _, _, _, HM4.out⟩⟩
    case round =>
      obtain ⟨i, rfl, i0, i1, HM⟩ := hrel
      clear HM4 p4 q4
      obtain ⟨s, v, q, k, hMB, hv⟩ := HM.out
      have HB5 := hide hMB
      have HV := hide hv
      clear HM hMB hv
      rename World => W5
      by_cases hi : 0 < i
      · have k0 := HB5.out.2.1.cell 0 _ rfl; have k1 := HB5.out.2.1.cell 1 _ rfl; have k2 := HB5.out.2.1.cell 2 _ rfl; have k3 := HB5.out.2.1.cell 3 _ rfl
        have hal := (Below.refl W5.heap.size W5).alloc (Nat.le_refl _) (.cells #[.int .i64 s, .int .i64 v, .int .i64 q, .bool k] 23)
        have HB6 := hide (HB5.out.next hal)
        have HX6 : Hid (HoldV (W5.alloc (.cells #[.int .i64 s, .int .i64 v, .int .i64 q, .bool k] 23)) W5.heap.size #[.int .i64 s, .int .i64 v, .int .i64 q, .bool k] 23) := hide (heap_alloc_new _ _)
        have hgX : g ≠ W5.heap.size := Nat.ne_of_lt HB5.out.1.lt
        have hrX : r ≠ W5.heap.size := Nat.ne_of_lt HB5.out.2.1.lt
        clear hal HB5
        go_wp2_with fail
        clear k0 k1 k2 k3
        generalize W5.alloc (.cells #[.int .i64 s, .int .i64 v, .int .i64 q, .bool k] 23) = W6 at *
        generalize W5.heap.size = X at *
        refine (HB6.out.1.draw HN.out HA.out HY.out 3 (by omega) (by omega)).mono ?_
        rintro e W7 ⟨x7, rfl, p7, q7, hg7, hs7⟩
        have HB7 := hide (HB6.out.step hg7 hs7)
        have HX7 := hide (HX6.out.grown hg7 hgX)
        clear HB6 HX6 hg7 hs7
        have k0 := HB7.out.2.1.cell 0 _ rfl; have k1 := HB7.out.2.1.cell 1 _ rfl; have k2 := HB7.out.2.1.cell 2 _ rfl; have k3 := HB7.out.2.1.cell 3 _ rfl
        by_cases h7 : x7 = 0
        · subst h7
          obtain ⟨_, _, ⟨q0, q1⟩, _⟩ := rtoB_iff.1 HV.out
          by_cases hq : 60000 < 2 * q
          · skip
            have HV8 := hide (back_valid HV.out)
            have CB := hide (implBackoff_ok s v q k HV.out)
            rw [show min (2 * q) 60000 = 60000 by omega] at HV8 CB
            go_wp2_with fail
            refine (CB.out _).mono ?_
            rintro e w8 ⟨rfl, hb8⟩
            have HB8 := hide (HB7.out.next hb8)
            have HX8 := hide (HX7.out.next hb8)
            clear HB7 HX7 hb8 k0 k1 k2 k3
            have k0 := HB8.out.2.1.cell 0 _ rfl; have k1 := HB8.out.2.1.cell 1 _ rfl; have k2 := HB8.out.2.1.cell 2 _ rfl; have k3 := HB8.out.2.1.cell 3 _ rfl
            have kf := HB8.out.2.1.frozen
            have y0 := HX8.out.cell 0 _ rfl; have y2 := HX8.out.cell 2 _ rfl
            go_wp2_with fail
            exact ⟨⟨i - 1, by go_num, by omega, by omega, hide ⟨_, _, _, _, HB8.out.four (.int .i64 s) (.int .i64 v) (.int .i64 (60000)) (.bool k), HV8.out⟩⟩, by simp [intOf]; omega⟩
          · skip
            have HV8 := hide (back_valid HV.out)
            have CB := hide (implBackoff_ok s v q k HV.out)
            rw [show min (2 * q) 60000 = 2 * q by omega] at HV8 CB
            go_wp2_with fail
            refine (CB.out _).mono ?_
            rintro e w8 ⟨rfl, hb8⟩
            have HB8 := hide (HB7.out.next hb8)
            have HX8 := hide (HX7.out.next hb8)
            clear HB7 HX7 hb8 k0 k1 k2 k3
            have k0 := HB8.out.2.1.cell 0 _ rfl; have k1 := HB8.out.2.1.cell 1 _ rfl; have k2 := HB8.out.2.1.cell 2 _ rfl; have k3 := HB8.out.2.1.cell 3 _ rfl
            have kf := HB8.out.2.1.frozen
            have y0 := HX8.out.cell 0 _ rfl; have y2 := HX8.out.cell 2 _ rfl
            go_wp2_with fail
            exact ⟨⟨i - 1, by go_num, by omega, by omega, hide ⟨_, _, _, _, HB8.out.four (.int .i64 s) (.int .i64 v) (.int .i64 (2 * q)) (.bool k), HV8.out⟩⟩, by simp [intOf]; omega⟩
        · have HS := hide (fun (ms : Int) (h0 : 0 ≤ ms) (h1 : ms < 60001) => implSample_ok s v q k ms HV.out (inB_iff.2 ⟨h0, by omega⟩))
          have HD7 := hide HB7.out.drew
          have HXD := hide (show HoldV W7.drew X _ 23 from HX7.out)
          have kf := HB7.out.2.1.frozen
          go_upto_region 19 with fail
          go_region_with (first
            | (go_at_call 13; refine (HD7.out.1.draw HN.out HA.out HY.out 60001 (by omega) (by omega)).mono ?_; rintro e w8 ⟨x8, rfl, p8, q8, hg8, hs8⟩; have HB8 := hide (HD7.out.step hg8 hs8); have j0 := HB8.out.2.1.cell 0 _ rfl; have j1 := HB8.out.2.1.cell 1 _ rfl; have j2 := HB8.out.2.1.cell 2 _ rfl; have j3 := HB8.out.2.1.cell 3 _ rfl)
            | (go_at_call 23; refine (HS.out _ p8 q8 _).mono ?_; rintro e w9 ⟨rfl, hb9⟩; have HV9 := hide (smp_valid HV.out ⟨p8, (by omega : x8 ≤ 1000000)⟩); have HB9 := hide (HB8.out.next hb9); clear hb9; have l0 := HB9.out.2.1.cell 0 _ rfl; have l1 := HB9.out.2.1.cell 1 _ rfl; have l2 := HB9.out.2.1.cell 2 _ rfl; have l3 := HB9.out.2.1.cell 3 _ rfl; have lf := HB9.out.2.1.frozen; obtain ⟨_, _, ⟨qa, qb⟩, _⟩ := rtoB_iff.1 HV9.out))
          all_goals (clear k0 k1 k2 k3 kf)
          all_goals (try clear j0 j1 j2 j3)
          all_goals (go_wp2_with fail)
          all_goals exact ⟨⟨i - 1, by go_num, by omega, by omega, hide ⟨_, _, _, _, HB9.out.four _ _ _ _, HV9.out⟩⟩, by simp [intOf]; omega⟩
      · go_wp2_with fail
        refine (HB5.out.1.draw HN.out HA.out HY.out 60001 (by omega) (by omega)).mono ?_
        rintro e W6 ⟨ms, rfl, p6, q6, hg6, hs6⟩
        have HB6 := hide (HB5.out.step hg6 hs6)
        have HI := hide (SetI.zero (ms := ms) HV.out)
        have hms : 0 ≤ ms ∧ ms ≤ 60000 := ⟨p6, by omega⟩
        have HMS := hide hms
        clear HB5 HV hg6 hs6 hms
        go_wp2_with fail
        go_loopw [10] (fun t w2 => ∃ j : Nat, t = .int .i64 j ∧ j ≤ 200 ∧ Hid (∃ s v q k, LwB w w2 g len0 a0 cap0 r #[.int .i64 s, .int .i64 v, .int .i64 q, .bool k] 23 ∧ SetI ms j s v q k)) (fun t _ => 200 - (intOf t).toNat)
        case atStart => exact ⟨0, rfl, by omega, hide ⟨_, _, _, _, HB6.out, HI.out⟩⟩
        case round =>
          obtain ⟨j, rfl, j0, HM⟩ := hrel
          clear HB6 HI
          obtain ⟨s, v, q, k, hMB, hI⟩ := HM.out
          have HB7 := hide hMB
          have HI := hide hI
          clear HM hMB hI
          rename World => W7
          have k0 := HB7.out.2.1.cell 0 _ rfl; have k1 := HB7.out.2.1.cell 1 _ rfl; have k2 := HB7.out.2.1.cell 2 _ rfl; have k3 := HB7.out.2.1.cell 3 _ rfl
          by_cases hj : j < 200
          · go_wp2_with fail
            refine (implSample_ok s v q k ms HI.out.1 (inB_iff.2 ⟨p6, by omega⟩) _).mono ?_
            rintro e w8 ⟨rfl, hb8⟩
            have HI8 := hide (HI.out.step HMS.out)
            have HB8 := hide (HB7.out.next hb8)
            clear HB7 hb8 HI k0 k1 k2 k3
            generalize smS s ms k = S at *
            generalize smV s v ms k = V at *
            generalize smR s v ms k = R at *
            have hal := (Below.refl w8.heap.size w8).alloc (Nat.le_refl _) (.cells #[.int .i64 S, .int .i64 V, .int .i64 R, .bool true] 23)
            have HB9 := hide (HB8.out.next hal)
            have HX9 : Hid (HoldV (w8.alloc (.cells #[.int .i64 S, .int .i64 V, .int .i64 R, .bool true] 23)) w8.heap.size #[.int .i64 S, .int .i64 V, .int .i64 R, .bool true] 23) := hide (heap_alloc_new _ _)
            clear hal HB8
            have k0 := HB9.out.2.1.cell 0 _ rfl; have k1 := HB9.out.2.1.cell 1 _ rfl; have k2 := HB9.out.2.1.cell 2 _ rfl; have k3 := HB9.out.2.1.cell 3 _ rfl
            have kf := HB9.out.2.1.frozen
            have y0 := HX9.out.cell 0 _ rfl; have y1 := HX9.out.cell 1 _ rfl; have y2 := HX9.out.cell 2 _ rfl; have y3 := HX9.out.cell 3 _ rfl
            go_wp2_with fail
            exact ⟨⟨j + 1, by go_num, by omega, hide ⟨_, _, _, _, HB9.out.four (.int .i64 S) (.int .i64 V) (.int .i64 R) (.bool true), HI8.out⟩⟩, by simp [intOf]; omega⟩
          · obtain rfl : j = 200 := by omega
            obtain ⟨hs8, hv0, hv4, hlo, hhi⟩ := HI.out.done HMS.out
            have C1 := hide (lwClamp_walk (ms + 1) W7.drew)
            have C3 := hide (lwClamp_walk (ms + 3) W7.drew)
            obtain ⟨lo, hlo'⟩ : ∃ x, x = wiB (ms + 1) 200 60000 := ⟨_, rfl⟩
            obtain ⟨hi', hhi'⟩ : ∃ x, x = wiB (ms + 3) 200 60000 := ⟨_, rfl⟩
            rw [← hlo'] at hlo C1
            rw [← hhi'] at hhi C3
            obtain ⟨⟨s0, s1⟩, _, _, _⟩ := rtoB_iff.1 HI.out.1
            clear hlo' hhi' HI
            subst hs8
            have HB8 := hide HB7.out.drew
            clear HB7 HMS
            go_wp2_with fail
            refine region_tail 26 (by kernel_rfl) (by kernel_rfl) ?_
            clear k0 k1 k2 k3
            generalize W7.drew = V at *
            have k0 := HB8.out.2.1.cell 0 _ rfl; have k1 := HB8.out.2.1.cell 1 _ rfl; have k2 := HB8.out.2.1.cell 2 _ rfl; have k3 := HB8.out.2.1.cell 3 _ rfl
            simp only [List.take_succ_cons, List.take_zero, List.drop_succ_cons, List.drop_zero]
            repeat (first | go_big_quiet_skip | (go_big_quiet_want; go_big_quiet_op; first | go_big_quiet_on | (apply Exists.intro; (first | with_reducible refine ⟨C1.out, ?_⟩ | with_reducible refine ⟨C3.out, ?_⟩); go_big_quiet_on)))
            refine wpQuiet_nil ?_
            go_wp2_with fail
            go_ret
            exact ⟨rfl, HB8.out.1.1⟩

open Go.ChangeMaps (open_string shut_string)
theorem own : ownKnob Try.prog.godebug = none := by kernel_rfl
theorem laidOut : laidOutB Try.prog = true := by kernel_rfl

set_option maxRecDepth 100000 in
theorem fnSettled_lifted (os : Os) (started : os.Started) (H : Type) (enc : TypeId × Value → H) :
    ReturnsInHanded {} Try.checked os 7 .any (Rows.fnSettledSpec.pre6 enc Try.prog Try.f7 Rows.fnSettledRow.domain false) (Rows.fnSettledSpec.post enc Try.prog Try.f7 false true false false) := by
  refine returnsInHanded_of_change (C := Try.checked) own started (by kernel_rfl) Try.func7
    (ChangeSpec.witness6 (enc := enc) (C := Try.checked) false ⟨#[], #[.slice none 0 0], []⟩ 8 (by kernel_rfl) (by kernel_rfl) (by kernel_rfl) (by kernel_rfl)) ?_
  intro W base args ds gs before hval0 hW hcnd _
  have hval : ∀ (j : Nat) t v, Try.f7.params[j]? = some t → args[j]? = some v → Value.okWide Try.prog W .any base t v := hval0
  have hW' := hW
  obtain ⟨p, q, hA0, hV, rfl, hfz, hnd⟩ := hW
  have hA : DataW.TrodAll enc Try.prog W 0 (fun _ => true) true Try.f7.params.toList args.toList ds p := hA0
  rw [Try.params7] at hA hval
  obtain ⟨v0, vs0, d0, ds0, p0, q0, hargs, rfl, rfl, h0, r0⟩ := trodAll_cons hA
  obtain ⟨rfl, rfl, rfl⟩ := trodAll_nil r0
  obtain rfl : args = #[v0] := by cases args; simp_all
  obtain ⟨rfl, rfl⟩ := trodVars_none hV
  obtain ⟨a0, len0, cap0, rfl⟩ := okWide_slice Try.underlying27 (hval 0 27 v0 rfl rfl)
  have k0 := h0
  have lt0 : ∀ x ∈ p0, x.block < W.heap.size := by obtain ⟨m, hm⟩ := k0; exact DataW.trod_lt m _ _ _ hm
  obtain ⟨z0, w0⟩ : ∃ zs, IsRow .u8 W a0 len0 cap0 zs := by
    obtain ⟨fuel, hf⟩ := h0
    rcases open_ints Try.underlying27 Try.underlying5 (by kernel_rfl) hf with ⟨hcs, _⟩ | ⟨x, l, c, zs, hcs, _, hl, hm, hz, _, hcell, hwz⟩
    · simp [Value.cells] at hcs
      obtain ⟨rfl, rfl, rfl⟩ := hcs
      exact ⟨[], .inl ⟨rfl, rfl, rfl, rfl⟩⟩
    · simp [Value.cells] at hcs
      obtain ⟨rfl, rfl, rfl⟩ := hcs
      exact ⟨zs, .inr ⟨_, rfl, hl, hm, by simpa using hz, hcell, hwz⟩⟩
  clear hA0 hval0
  refine (walkFnSettled a0 len0 cap0 z0 W w0).mono fun e W' ⟨he, bel⟩ => ?_
  subst he
  exact ⟨_, rfl, _, _, _, [], _, [], hW', trodAll_mk1 (shut_bool Try.underlying4 _), (trodAll_cons_mk (Below.trod laidOut (by kernel_rfl) (of_decide_eq_true (by kernel_rfl)) k0 bel lt0) trodAll_mk0), rfl, bel.frame _, fun h => by cases h⟩

theorem fnSettled_over : Rows.fnSettledRow.holds Try.pinned (OpenSpec.ofChange Rows.fnSettledSpec) :=
  OpenClaim.holds_of_wide 7 Try.f7 rfl rfl rfl rfl rfl rfl rfl ⟨rfl, rfl, rfl, rfl, rfl⟩ rfl rfl rfl rfl rfl (by kernel_rfl) Try.func7 (by kernel_rfl)
    (of_decide_eq_true (by kernel_rfl)) (by unfold Func.isWrapper; first | (rw [if_pos (by decide +kernel)]; kernel_rfl) | (rw [if_neg (by decide +kernel)]; exact ⟨rfl, rfl⟩))
    (fun os started H enc _ => fnSettled_lifted os started H enc)

theorem fnSettled_holds : Rows.FnSettledSaid := fnSettled_over
end Go.Proofs.Ytnnijikfppijfaa
