/-
Contracts of functions of this seat.
-/
import Derived.Test.YtnnijikfppijfaaRows
import Derived.WalkKit
import Derived.ProofKit
import Derived.OpenShut
import Derived.Test.YtnnijikfppijfaaRto
namespace Go.Proofs.Ytnnijikfppijfaa
open Go.ChangeShapes Go.WideShapes Go.ChangeAt Go.RowKit
set_option linter.unusedVariables false
set_option maxRecDepth 100000
/-- A number brought within bounds. -/
def wiB (n l h : Int) : Int := if n < l then l else if h < n then h else n
def smS (s ms : Int) (k : Bool) : Int := if k then s + (ms - s / 8) else 8 * ms
def smV (s v ms : Int) (k : Bool) : Int := if k then v - v / 4 + (if ms - s / 8 < 0 then -(ms - s / 8) else ms - s / 8) else 2 * ms
def smR (s v ms : Int) (k : Bool) : Int := wiB (smS s ms k / 8 + (if smV s v ms k = 0 then 1 else smV s v ms k)) 200 60000

theorem Within_walk (n l h : Int) (w : World) : Calls Try.prog 43 #[.int .i64 n, .int .i64 l, .int .i64 h] w fun e w' => e = .returned (.int .i64 (wiB n l h)) ∧ w' = w := by
  unfold wiB
  by_cases h1 : n < l
  · rw [if_pos h1]
    go_enter Try.func43, Try.ntmps43
    go_wp2
    go_ret
    exact ⟨rfl, rfl⟩
  · rw [if_neg h1]
    by_cases h2 : h < n
    · rw [if_pos h2]
      go_enter Try.func43, Try.ntmps43
      go_wp2
      go_ret
      exact ⟨rfl, rfl⟩
    · rw [if_neg h2]
      go_enter Try.func43, Try.ntmps43
      go_wp2
      go_ret
      exact ⟨rfl, rfl⟩
theorem specNewRto (w : World) : Calls Try.prog 9 #[] w fun e w' => e = .returned (.agg #[.int .i64 0, .int .i64 0, .int .i64 1000, .bool false]) ∧ Below w.heap.size w w' := by
  go_enter Try.func9, Try.ntmps9
  go_wp2
  exact bodyPost_ret (v := .agg #[.int .i64 0, .int .i64 0, .int .i64 1000, .bool false]) (by simp [results, Try.results9, go_sem]) rfl ⟨rfl, ((Below.refl _ _).alloc (Nat.le_refl _) _)⟩
set_option maxHeartbeats 4000000 in
theorem specSample_bad (s v r : Int) (k : Bool) (ms : Int) (h : (rtoB s v r k && inB ms 0 1000000) = false) : ExCRto 25 #[.agg #[.int .i64 s, .int .i64 v, .int .i64 r, .bool k], .int .i64 ms] 0 0 0 false 1 := by
  intro w
  have CB := hide (fun W => l13OK_walk s v r k W)
  have CM := hide (fun W => In_walk ms 0 1000000 W)
  cases hr : rtoB s v r k with
  | false =>
    rw [hr] at CB
    clear h hr
    have HB := hide (Bx.start w #[.int .i64 (s), .int .i64 (v), .int .i64 (r), .bool k] #[.int .i64 0, .int .i64 0, .int .i64 0, .bool false] 23)
    go_enter Try.func25, Try.ntmps25
    go_wp2_with fail
    generalize (w.alloc (.cells #[.int .i64 (s), .int .i64 (v), .int .i64 (r), .bool k] 23)).alloc (.cells #[.int .i64 0, .int .i64 0, .int .i64 0, .bool false] 23) = W at *
    refine (CB.out _).mono ?_
    rintro e w1 ⟨rfl, hb1⟩
    have HB1 := hide (HB.out.next hb1)
    clear HB hb1
    have k0 := HB1.out.2.1.cell 0 _ rfl; have k1 := HB1.out.2.1.cell 1 _ rfl; have k2 := HB1.out.2.1.cell 2 _ rfl; have k3 := HB1.out.2.1.cell 3 _ rfl; have r0 := HB1.out.2.2.cell 0 _ rfl; have r1 := HB1.out.2.2.cell 1 _ rfl; have r2 := HB1.out.2.2.cell 2 _ rfl; have r3 := HB1.out.2.2.cell 3 _ rfl
    have kf := HB1.out.2.1.frozen; have rf := HB1.out.2.2.frozen
    go_wp2_with fail
    refine Bx.four (P := fun X => bodyPost Try.prog Try.f25 _ _ _ X) (HB1.out) ?_
    intro W9 h9
    have r0 := h9.2.2.cell 0 _ rfl; have r1 := h9.2.2.cell 1 _ rfl; have r2 := h9.2.2.cell 2 _ rfl; have r3 := h9.2.2.cell 3 _ rfl
    exact bodyPost_ret (v := .tuple #[.agg #[.int .i64 (0), .int .i64 (0), .int .i64 (0), .bool false], .int .i64 1]) (by simp [results, Try.results25, go_sem, r0, r1, r2, r3]) rfl ⟨rfl, h9.1⟩
  | true =>
    have hm : inB ms 0 1000000 = false := by rw [hr] at h; simpa using h
    rw [hr] at CB
    rw [hm] at CM
    clear h hr hm
    have HB := hide (Bx.start w #[.int .i64 (s), .int .i64 (v), .int .i64 (r), .bool k] #[.int .i64 0, .int .i64 0, .int .i64 0, .bool false] 23)
    go_enter Try.func25, Try.ntmps25
    go_wp2_with fail
    generalize (w.alloc (.cells #[.int .i64 (s), .int .i64 (v), .int .i64 (r), .bool k] 23)).alloc (.cells #[.int .i64 0, .int .i64 0, .int .i64 0, .bool false] 23) = W at *
    refine (CB.out _).mono ?_
    rintro e w1 ⟨rfl, hb1⟩
    have HB1 := hide (HB.out.next hb1)
    clear HB hb1
    have k0 := HB1.out.2.1.cell 0 _ rfl; have k1 := HB1.out.2.1.cell 1 _ rfl; have k2 := HB1.out.2.1.cell 2 _ rfl; have k3 := HB1.out.2.1.cell 3 _ rfl; have r0 := HB1.out.2.2.cell 0 _ rfl; have r1 := HB1.out.2.2.cell 1 _ rfl; have r2 := HB1.out.2.2.cell 2 _ rfl; have r3 := HB1.out.2.2.cell 3 _ rfl
    have kf := HB1.out.2.1.frozen; have rf := HB1.out.2.2.frozen
    go_wp2_with fail
    refine (CM.out _).mono ?_
    rintro e w2 ⟨rfl, rfl⟩
    go_wp2_with fail
    refine Bx.four (P := fun X => bodyPost Try.prog Try.f25 _ _ _ X) (HB1.out) ?_
    intro W9 h9
    have r0 := h9.2.2.cell 0 _ rfl; have r1 := h9.2.2.cell 1 _ rfl; have r2 := h9.2.2.cell 2 _ rfl; have r3 := h9.2.2.cell 3 _ rfl
    exact bodyPost_ret (v := .tuple #[.agg #[.int .i64 (0), .int .i64 (0), .int .i64 (0), .bool false], .int .i64 1]) (by simp [results, Try.results25, go_sem, r0, r1, r2, r3]) rfl ⟨rfl, h9.1⟩
set_option maxHeartbeats 4000000 in
theorem specSample_ok (s v r : Int) (k : Bool) (ms : Int) (hr : rtoB s v r k = true) (hm : inB ms 0 1000000 = true) : ExCRto 25 #[.agg #[.int .i64 s, .int .i64 v, .int .i64 r, .bool k], .int .i64 ms] (smS s ms k) (smV s v ms k) (smR s v ms k) true 0 := by
  intro w
  have CB := hide (fun W => l13OK_walk s v r k W)
  have CM := hide (fun W => In_walk ms 0 1000000 W)
  obtain ⟨⟨s0, s1⟩, ⟨v0, v1⟩, ⟨r0, r1⟩, hk⟩ := rtoB_iff.1 hr
  obtain ⟨m0, m1⟩ := inB_iff.1 hm
  rw [hr] at CB
  rw [hm] at CM
  clear hr hm r0 r1
  cases k with
  | false =>
    by_cases hz : ms = 0
    · subst hz
      obtain ⟨Rr, hR⟩ : ∃ x, x = wiB (1) 200 60000 := ⟨_, rfl⟩
      have ES : Hid (smS s 0 false = 0) := hide (by unfold smS; simp)
      have EV : Hid (smV s v 0 false = 0) := hide (by unfold smV; simp <;> omega)
      have ER : Hid (smR s v 0 false = Rr) := hide (by rw [hR]; unfold smR; rw [ES.out, EV.out]; first | rfl | (congr 1; split <;> omega))
      have CW := hide (fun W => by have h := Within_walk (1) 200 60000 W; rw [← hR] at h; exact h)
      clear hR
      have HB := hide (Bx.start w #[.int .i64 (s), .int .i64 (v), .int .i64 (r), .bool false] #[.int .i64 0, .int .i64 0, .int .i64 0, .bool false] 23)
      go_enter Try.func25, Try.ntmps25
      go_wp2_with fail
      generalize (w.alloc (.cells #[.int .i64 (s), .int .i64 (v), .int .i64 (r), .bool false] 23)).alloc (.cells #[.int .i64 0, .int .i64 0, .int .i64 0, .bool false] 23) = W at *
      refine (CB.out _).mono ?_
      rintro e w1 ⟨rfl, hb1⟩
      have HB1 := hide (HB.out.next hb1)
      clear HB hb1
      have k0 := HB1.out.2.1.cell 0 _ rfl; have k1 := HB1.out.2.1.cell 1 _ rfl; have k2 := HB1.out.2.1.cell 2 _ rfl; have k3 := HB1.out.2.1.cell 3 _ rfl; have r0 := HB1.out.2.2.cell 0 _ rfl; have r1 := HB1.out.2.2.cell 1 _ rfl; have r2 := HB1.out.2.2.cell 2 _ rfl; have r3 := HB1.out.2.2.cell 3 _ rfl
      have kf := HB1.out.2.1.frozen; have rf := HB1.out.2.2.frozen
      go_wp2_with fail
      refine (CM.out _).mono ?_
      rintro e w2 ⟨rfl, rfl⟩
      go_wp2_with fail
      refine (CW.out _).mono ?_
      rintro e w3 ⟨rfl, rfl⟩
      have q := (((HB1.out.put 0 (.int .i64 (0))).put 1 (.int .i64 (0))).put 2 (.int .i64 0)).put 3 (.bool true)
      simp only [List.setIfInBounds_toArray, List.set_cons_zero, List.set_cons_succ] at q
      have HB3 := hide q
      clear q HB1 k0 k1 k2 k3 kf r0 r1 r2 r3 rf
      generalize (((w2.setCell ⟨w.heap.size, 0, none⟩ (.int .i64 (0))).setCell ⟨w.heap.size, 1, none⟩ (.int .i64 (0))).setCell ⟨w.heap.size, 2, none⟩ (.int .i64 0)).setCell ⟨w.heap.size, 3, none⟩ (.bool true) = W3 at *
      have k0 := HB3.out.2.1.cell 0 _ rfl; have k1 := HB3.out.2.1.cell 1 _ rfl; have k2 := HB3.out.2.1.cell 2 _ rfl; have k3 := HB3.out.2.1.cell 3 _ rfl; have r0 := HB3.out.2.2.cell 0 _ rfl; have r1 := HB3.out.2.2.cell 1 _ rfl; have r2 := HB3.out.2.2.cell 2 _ rfl; have r3 := HB3.out.2.2.cell 3 _ rfl
      have kf := HB3.out.2.1.frozen; have rf := HB3.out.2.2.frozen
      go_wp2_with fail
      refine Bx.four (P := fun X => bodyPost Try.prog Try.f25 _ _ _ X) (HB3.out.put 2 (.int .i64 Rr)) ?_
      intro W9 h9
      have r0 := h9.2.2.cell 0 _ rfl; have r1 := h9.2.2.cell 1 _ rfl; have r2 := h9.2.2.cell 2 _ rfl; have r3 := h9.2.2.cell 3 _ rfl
      exact bodyPost_ret (v := .tuple #[.agg #[.int .i64 (0), .int .i64 (0), .int .i64 (Rr), .bool true], .int .i64 0]) (by simp [results, Try.results25, go_sem, r0, r1, r2, r3]) rfl ⟨ret_four (i64_eq ES.out.symm) (i64_eq EV.out.symm) (i64_eq ER.out.symm) rfl rfl, h9.1⟩
    · have hnz : 0 < ms := by omega
      obtain ⟨Rr, hR⟩ : ∃ x, x = wiB (ms + 2 * ms) 200 60000 := ⟨_, rfl⟩
      have ES : Hid (smS s ms false = 8 * ms) := hide (by unfold smS; simp)
      have EV : Hid (smV s v ms false = 2 * ms) := hide (by unfold smV; simp <;> omega)
      have ER : Hid (smR s v ms false = Rr) := hide (by rw [hR]; unfold smR; rw [ES.out, EV.out]; first | rfl | (congr 1; split <;> omega))
      have CW := hide (fun W => by have h := Within_walk (ms + 2 * ms) 200 60000 W; rw [← hR] at h; exact h)
      clear hR
      have HB := hide (Bx.start w #[.int .i64 (s), .int .i64 (v), .int .i64 (r), .bool false] #[.int .i64 0, .int .i64 0, .int .i64 0, .bool false] 23)
      go_enter Try.func25, Try.ntmps25
      go_wp2_with fail
      generalize (w.alloc (.cells #[.int .i64 (s), .int .i64 (v), .int .i64 (r), .bool false] 23)).alloc (.cells #[.int .i64 0, .int .i64 0, .int .i64 0, .bool false] 23) = W at *
      refine (CB.out _).mono ?_
      rintro e w1 ⟨rfl, hb1⟩
      have HB1 := hide (HB.out.next hb1)
      clear HB hb1
      have k0 := HB1.out.2.1.cell 0 _ rfl; have k1 := HB1.out.2.1.cell 1 _ rfl; have k2 := HB1.out.2.1.cell 2 _ rfl; have k3 := HB1.out.2.1.cell 3 _ rfl; have r0 := HB1.out.2.2.cell 0 _ rfl; have r1 := HB1.out.2.2.cell 1 _ rfl; have r2 := HB1.out.2.2.cell 2 _ rfl; have r3 := HB1.out.2.2.cell 3 _ rfl
      have kf := HB1.out.2.1.frozen; have rf := HB1.out.2.2.frozen
      go_wp2_with fail
      refine (CM.out _).mono ?_
      rintro e w2 ⟨rfl, rfl⟩
      go_wp2_with fail
      refine (CW.out _).mono ?_
      rintro e w3 ⟨rfl, rfl⟩
      have q := (((HB1.out.put 0 (.int .i64 (8 * ms))).put 1 (.int .i64 (2 * ms))).put 2 (.int .i64 0)).put 3 (.bool true)
      simp only [List.setIfInBounds_toArray, List.set_cons_zero, List.set_cons_succ] at q
      have HB3 := hide q
      clear q HB1 k0 k1 k2 k3 kf r0 r1 r2 r3 rf
      generalize (((w2.setCell ⟨w.heap.size, 0, none⟩ (.int .i64 (8 * ms))).setCell ⟨w.heap.size, 1, none⟩ (.int .i64 (2 * ms))).setCell ⟨w.heap.size, 2, none⟩ (.int .i64 0)).setCell ⟨w.heap.size, 3, none⟩ (.bool true) = W3 at *
      have k0 := HB3.out.2.1.cell 0 _ rfl; have k1 := HB3.out.2.1.cell 1 _ rfl; have k2 := HB3.out.2.1.cell 2 _ rfl; have k3 := HB3.out.2.1.cell 3 _ rfl; have r0 := HB3.out.2.2.cell 0 _ rfl; have r1 := HB3.out.2.2.cell 1 _ rfl; have r2 := HB3.out.2.2.cell 2 _ rfl; have r3 := HB3.out.2.2.cell 3 _ rfl
      have kf := HB3.out.2.1.frozen; have rf := HB3.out.2.2.frozen
      go_wp2_with fail
      refine Bx.four (P := fun X => bodyPost Try.prog Try.f25 _ _ _ X) (HB3.out.put 2 (.int .i64 Rr)) ?_
      intro W9 h9
      have r0 := h9.2.2.cell 0 _ rfl; have r1 := h9.2.2.cell 1 _ rfl; have r2 := h9.2.2.cell 2 _ rfl; have r3 := h9.2.2.cell 3 _ rfl
      exact bodyPost_ret (v := .tuple #[.agg #[.int .i64 (8 * ms), .int .i64 (2 * ms), .int .i64 (Rr), .bool true], .int .i64 0]) (by simp [results, Try.results25, go_sem, r0, r1, r2, r3]) rfl ⟨ret_four (i64_eq ES.out.symm) (i64_eq EV.out.symm) (i64_eq ER.out.symm) rfl rfl, h9.1⟩
  | true =>
    by_cases he : ms - s / 8 < 0
    · skip
      obtain ⟨Rr, hR⟩ : ∃ x, x = wiB ((s + (ms - s / 8)) / 8 + (v - v / 4 + -(ms - s / 8))) 200 60000 := ⟨_, rfl⟩
      have ES : Hid (smS s ms true = s + (ms - s / 8)) := hide (by unfold smS; simp)
      have EV : Hid (smV s v ms true = v - v / 4 + -(ms - s / 8)) := hide (by unfold smV; simp <;> omega)
      have ER : Hid (smR s v ms true = Rr) := hide (by rw [hR]; unfold smR; rw [ES.out, EV.out]; first | rfl | (congr 1; split <;> omega))
      have CW := hide (fun W => by have h := Within_walk ((s + (ms - s / 8)) / 8 + (v - v / 4 + -(ms - s / 8))) 200 60000 W; rw [← hR] at h; exact h)
      clear hR
      have HB := hide (Bx.start w #[.int .i64 (s), .int .i64 (v), .int .i64 (r), .bool true] #[.int .i64 0, .int .i64 0, .int .i64 0, .bool false] 23)
      go_enter Try.func25, Try.ntmps25
      go_wp2_with fail
      generalize (w.alloc (.cells #[.int .i64 (s), .int .i64 (v), .int .i64 (r), .bool true] 23)).alloc (.cells #[.int .i64 0, .int .i64 0, .int .i64 0, .bool false] 23) = W at *
      refine (CB.out _).mono ?_
      rintro e w1 ⟨rfl, hb1⟩
      have HB1 := hide (HB.out.next hb1)
      clear HB hb1
      have k0 := HB1.out.2.1.cell 0 _ rfl; have k1 := HB1.out.2.1.cell 1 _ rfl; have k2 := HB1.out.2.1.cell 2 _ rfl; have k3 := HB1.out.2.1.cell 3 _ rfl; have r0 := HB1.out.2.2.cell 0 _ rfl; have r1 := HB1.out.2.2.cell 1 _ rfl; have r2 := HB1.out.2.2.cell 2 _ rfl; have r3 := HB1.out.2.2.cell 3 _ rfl
      have kf := HB1.out.2.1.frozen; have rf := HB1.out.2.2.frozen
      go_wp2_with fail
      refine (CM.out _).mono ?_
      rintro e w2 ⟨rfl, rfl⟩
      go_wp2_with fail
      refine (CW.out _).mono ?_
      rintro e w3 ⟨rfl, rfl⟩
      have q := (HB1.out.put 0 (.int .i64 (s + (ms - s / 8)))).put 1 (.int .i64 (v - v / 4 + -(ms - s / 8)))
      simp only [List.setIfInBounds_toArray, List.set_cons_zero, List.set_cons_succ] at q
      have HB3 := hide q
      clear q HB1 k0 k1 k2 k3 kf r0 r1 r2 r3 rf
      generalize (w2.setCell ⟨w.heap.size, 0, none⟩ (.int .i64 (s + (ms - s / 8)))).setCell ⟨w.heap.size, 1, none⟩ (.int .i64 (v - v / 4 + -(ms - s / 8))) = W3 at *
      have k0 := HB3.out.2.1.cell 0 _ rfl; have k1 := HB3.out.2.1.cell 1 _ rfl; have k2 := HB3.out.2.1.cell 2 _ rfl; have k3 := HB3.out.2.1.cell 3 _ rfl; have r0 := HB3.out.2.2.cell 0 _ rfl; have r1 := HB3.out.2.2.cell 1 _ rfl; have r2 := HB3.out.2.2.cell 2 _ rfl; have r3 := HB3.out.2.2.cell 3 _ rfl
      have kf := HB3.out.2.1.frozen; have rf := HB3.out.2.2.frozen
      go_wp2_with fail
      refine Bx.four (P := fun X => bodyPost Try.prog Try.f25 _ _ _ X) (HB3.out.put 2 (.int .i64 Rr)) ?_
      intro W9 h9
      have r0 := h9.2.2.cell 0 _ rfl; have r1 := h9.2.2.cell 1 _ rfl; have r2 := h9.2.2.cell 2 _ rfl; have r3 := h9.2.2.cell 3 _ rfl
      exact bodyPost_ret (v := .tuple #[.agg #[.int .i64 (s + (ms - s / 8)), .int .i64 (v - v / 4 + -(ms - s / 8)), .int .i64 (Rr), .bool true], .int .i64 0]) (by simp [results, Try.results25, go_sem, r0, r1, r2, r3]) rfl ⟨ret_four (i64_eq ES.out.symm) (i64_eq EV.out.symm) (i64_eq ER.out.symm) rfl rfl, h9.1⟩
    · by_cases hz : v - v / 4 + (ms - s / 8) = 0
      · have hzv : v = 0 := by omega
        subst hzv
        obtain ⟨Rr, hR⟩ : ∃ x, x = wiB ((s + (ms - s / 8)) / 8 + 1) 200 60000 := ⟨_, rfl⟩
        have ES : Hid (smS s ms true = s + (ms - s / 8)) := hide (by unfold smS; simp)
        have EV : Hid (smV s 0 ms true = ms - s / 8) := hide (by unfold smV; simp <;> omega)
        have ER : Hid (smR s 0 ms true = Rr) := hide (by rw [hR]; unfold smR; rw [ES.out, EV.out]; first | rfl | (congr 1; split <;> omega))
        have CW := hide (fun W => by have h := Within_walk ((s + (ms - s / 8)) / 8 + 1) 200 60000 W; rw [← hR] at h; exact h)
        clear hR
        have HB := hide (Bx.start w #[.int .i64 (s), .int .i64 (0), .int .i64 (r), .bool true] #[.int .i64 0, .int .i64 0, .int .i64 0, .bool false] 23)
        go_enter Try.func25, Try.ntmps25
        go_wp2_with fail
        generalize (w.alloc (.cells #[.int .i64 (s), .int .i64 (0), .int .i64 (r), .bool true] 23)).alloc (.cells #[.int .i64 0, .int .i64 0, .int .i64 0, .bool false] 23) = W at *
        refine (CB.out _).mono ?_
        rintro e w1 ⟨rfl, hb1⟩
        have HB1 := hide (HB.out.next hb1)
        clear HB hb1
        have k0 := HB1.out.2.1.cell 0 _ rfl; have k1 := HB1.out.2.1.cell 1 _ rfl; have k2 := HB1.out.2.1.cell 2 _ rfl; have k3 := HB1.out.2.1.cell 3 _ rfl; have r0 := HB1.out.2.2.cell 0 _ rfl; have r1 := HB1.out.2.2.cell 1 _ rfl; have r2 := HB1.out.2.2.cell 2 _ rfl; have r3 := HB1.out.2.2.cell 3 _ rfl
        have kf := HB1.out.2.1.frozen; have rf := HB1.out.2.2.frozen
        go_wp2_with fail
        refine (CM.out _).mono ?_
        rintro e w2 ⟨rfl, rfl⟩
        go_wp2_with fail
        refine (CW.out _).mono ?_
        rintro e w3 ⟨rfl, rfl⟩
        have q := (HB1.out.put 0 (.int .i64 (s + (ms - s / 8)))).put 1 (.int .i64 (ms - s / 8))
        simp only [List.setIfInBounds_toArray, List.set_cons_zero, List.set_cons_succ] at q
        have HB3 := hide q
        clear q HB1 k0 k1 k2 k3 kf r0 r1 r2 r3 rf
        generalize (w2.setCell ⟨w.heap.size, 0, none⟩ (.int .i64 (s + (ms - s / 8)))).setCell ⟨w.heap.size, 1, none⟩ (.int .i64 (ms - s / 8)) = W3 at *
        have k0 := HB3.out.2.1.cell 0 _ rfl; have k1 := HB3.out.2.1.cell 1 _ rfl; have k2 := HB3.out.2.1.cell 2 _ rfl; have k3 := HB3.out.2.1.cell 3 _ rfl; have r0 := HB3.out.2.2.cell 0 _ rfl; have r1 := HB3.out.2.2.cell 1 _ rfl; have r2 := HB3.out.2.2.cell 2 _ rfl; have r3 := HB3.out.2.2.cell 3 _ rfl
        have kf := HB3.out.2.1.frozen; have rf := HB3.out.2.2.frozen
        go_wp2_with fail
        refine Bx.four (P := fun X => bodyPost Try.prog Try.f25 _ _ _ X) (HB3.out.put 2 (.int .i64 Rr)) ?_
        intro W9 h9
        have r0 := h9.2.2.cell 0 _ rfl; have r1 := h9.2.2.cell 1 _ rfl; have r2 := h9.2.2.cell 2 _ rfl; have r3 := h9.2.2.cell 3 _ rfl
        exact bodyPost_ret (v := .tuple #[.agg #[.int .i64 (s + (ms - s / 8)), .int .i64 (ms - s / 8), .int .i64 (Rr), .bool true], .int .i64 0]) (by simp [results, Try.results25, go_sem, r0, r1, r2, r3]) rfl ⟨ret_four (i64_eq ES.out.symm) (i64_eq EV.out.symm) (i64_eq ER.out.symm) rfl rfl, h9.1⟩
      · skip
        obtain ⟨Rr, hR⟩ : ∃ x, x = wiB ((s + (ms - s / 8)) / 8 + (v - v / 4 + (ms - s / 8))) 200 60000 := ⟨_, rfl⟩
        have ES : Hid (smS s ms true = s + (ms - s / 8)) := hide (by unfold smS; simp)
        have EV : Hid (smV s v ms true = v - v / 4 + (ms - s / 8)) := hide (by unfold smV; simp <;> omega)
        have ER : Hid (smR s v ms true = Rr) := hide (by rw [hR]; unfold smR; rw [ES.out, EV.out]; first | rfl | (congr 1; split <;> omega))
        have CW := hide (fun W => by have h := Within_walk ((s + (ms - s / 8)) / 8 + (v - v / 4 + (ms - s / 8))) 200 60000 W; rw [← hR] at h; exact h)
        clear hR
        have HB := hide (Bx.start w #[.int .i64 (s), .int .i64 (v), .int .i64 (r), .bool true] #[.int .i64 0, .int .i64 0, .int .i64 0, .bool false] 23)
        go_enter Try.func25, Try.ntmps25
        go_wp2_with fail
        generalize (w.alloc (.cells #[.int .i64 (s), .int .i64 (v), .int .i64 (r), .bool true] 23)).alloc (.cells #[.int .i64 0, .int .i64 0, .int .i64 0, .bool false] 23) = W at *
        refine (CB.out _).mono ?_
        rintro e w1 ⟨rfl, hb1⟩
        have HB1 := hide (HB.out.next hb1)
        clear HB hb1
        have k0 := HB1.out.2.1.cell 0 _ rfl; have k1 := HB1.out.2.1.cell 1 _ rfl; have k2 := HB1.out.2.1.cell 2 _ rfl; have k3 := HB1.out.2.1.cell 3 _ rfl; have r0 := HB1.out.2.2.cell 0 _ rfl; have r1 := HB1.out.2.2.cell 1 _ rfl; have r2 := HB1.out.2.2.cell 2 _ rfl; have r3 := HB1.out.2.2.cell 3 _ rfl
        have kf := HB1.out.2.1.frozen; have rf := HB1.out.2.2.frozen
        go_wp2_with fail
        refine (CM.out _).mono ?_
        rintro e w2 ⟨rfl, rfl⟩
        go_wp2_with fail
        refine (CW.out _).mono ?_
        rintro e w3 ⟨rfl, rfl⟩
        have q := (HB1.out.put 0 (.int .i64 (s + (ms - s / 8)))).put 1 (.int .i64 (v - v / 4 + (ms - s / 8)))
        simp only [List.setIfInBounds_toArray, List.set_cons_zero, List.set_cons_succ] at q
        have HB3 := hide q
        clear q HB1 k0 k1 k2 k3 kf r0 r1 r2 r3 rf
        generalize (w2.setCell ⟨w.heap.size, 0, none⟩ (.int .i64 (s + (ms - s / 8)))).setCell ⟨w.heap.size, 1, none⟩ (.int .i64 (v - v / 4 + (ms - s / 8))) = W3 at *
        have k0 := HB3.out.2.1.cell 0 _ rfl; have k1 := HB3.out.2.1.cell 1 _ rfl; have k2 := HB3.out.2.1.cell 2 _ rfl; have k3 := HB3.out.2.1.cell 3 _ rfl; have r0 := HB3.out.2.2.cell 0 _ rfl; have r1 := HB3.out.2.2.cell 1 _ rfl; have r2 := HB3.out.2.2.cell 2 _ rfl; have r3 := HB3.out.2.2.cell 3 _ rfl
        have kf := HB3.out.2.1.frozen; have rf := HB3.out.2.2.frozen
        go_wp2_with fail
        refine Bx.four (P := fun X => bodyPost Try.prog Try.f25 _ _ _ X) (HB3.out.put 2 (.int .i64 Rr)) ?_
        intro W9 h9
        have r0 := h9.2.2.cell 0 _ rfl; have r1 := h9.2.2.cell 1 _ rfl; have r2 := h9.2.2.cell 2 _ rfl; have r3 := h9.2.2.cell 3 _ rfl
        exact bodyPost_ret (v := .tuple #[.agg #[.int .i64 (s + (ms - s / 8)), .int .i64 (v - v / 4 + (ms - s / 8)), .int .i64 (Rr), .bool true], .int .i64 0]) (by simp [results, Try.results25, go_sem, r0, r1, r2, r3]) rfl ⟨ret_four (i64_eq ES.out.symm) (i64_eq EV.out.symm) (i64_eq ER.out.symm) rfl rfl, h9.1⟩

theorem implNewRto (w : World) : Calls Try.prog 10 #[] w fun e w' => e = .returned (.agg #[.int .i64 0, .int .i64 0, .int .i64 1000, .bool false]) ∧ Below w.heap.size w w' := by
  go_enter Try.func10, Try.ntmps10
  go_wp2
  exact bodyPost_ret (v := .agg #[.int .i64 0, .int .i64 0, .int .i64 1000, .bool false]) (by simp [results, Try.results10, go_sem]) rfl ⟨rfl, ((Below.refl _ _).alloc (Nat.le_refl _) _)⟩
theorem gsetb {W W' : World} {b : Nat} (h : W.grownBy W' (some b)) (i : Nat) (u : Value) : W.grownBy (W'.setCell ⟨b, i, none⟩ u) (some b) :=
  ⟨h.os, h.tape, h.output, by simpa using h.size, fun k hk hn => by rw [heap_setCell_other W' ⟨b, i, none⟩ k u (fun e => hn (by simp [e]))]; exact h.block k hk hn⟩
theorem grefl (w : World) (r : Option Nat) : w.grownBy w r := ⟨rfl, rfl, rfl, Nat.le_refl _, fun _ _ _ => rfl⟩
theorem gdrew {W W' : World} {r : Option Nat} (h : W.grownBy W' r) : W.grownBy W'.drew r := ⟨h.os, h.tape, h.output, h.size, h.block⟩
set_option maxHeartbeats 2000000 in
theorem begin_walk (b : Nat) (s v r : Int) (k : Bool) (ms : Int) (w : World) (h : HoldV w b #[.int .i64 s, .int .i64 v, .int .i64 r, .bool k] 23) (h0 : 0 ≤ ms) (h1 : ms ≤ 1000000) :
    Calls Try.prog 41 #[.pointer (some ⟨b, 0, none⟩), .int .i64 ms] w fun e w' => e = .returned (.tuple #[]) ∧ HoldV w' b #[.int .i64 (ms * 8), .int .i64 (ms * 4 / 2), .int .i64 r, .bool true] 23 ∧ w.grownBy w' (some b) := by
  have k0 := h.cell 0 _ rfl; have k1 := h.cell 1 _ rfl; have k2 := h.cell 2 _ rfl; have k3 := h.cell 3 _ rfl
  have kf := h.frozen
  have H := hide h
  clear h
  go_enter Try.func41, Try.ntmps41
  go_wp2_with fail
  go_end0
  have q := ((H.out.putb 0 (.int .i64 (ms * 8))).putb 1 (.int .i64 (ms * 4 / 2))).putb 3 (.bool true)
  simp only [List.setIfInBounds_toArray, List.set_cons_zero, List.set_cons_succ] at q
  exact ⟨rfl, q, gsetb (gsetb (gsetb (grefl _ _) 0 _) 1 _) 3 _⟩
set_option maxHeartbeats 4000000 in
theorem smooth_walk (b : Nat) (s v r : Int) (k : Bool) (ms : Int) (w : World) (h : HoldV w b #[.int .i64 s, .int .i64 v, .int .i64 r, .bool k] 23) (h0 : 0 ≤ ms) (h1 : ms ≤ 1000000) (s0 : 0 ≤ s) (s1 : s ≤ 8000000) (v0 : 0 ≤ v) (v1 : v ≤ 4000000) :
    Calls Try.prog 40 #[.pointer (some ⟨b, 0, none⟩), .int .i64 ms] w fun e w' => e = .returned (.tuple #[]) ∧ HoldV w' b #[.int .i64 (s + (ms - s / 8)), .int .i64 (v + (max (ms - s / 8) (-(ms - s / 8)) - v / 4)), .int .i64 r, .bool k] 23 ∧ w.grownBy w' (some b) := by
  have k0 := h.cell 0 _ rfl; have k1 := h.cell 1 _ rfl; have k2 := h.cell 2 _ rfl; have k3 := h.cell 3 _ rfl
  have kf := h.frozen
  have H := hide h
  clear h
  have D4 : Hid (v.tdiv 4 = v / 4) := hide (Int.tdiv_eq_ediv_of_nonneg v0)
  go_enter Try.func40, Try.ntmps40
  go_wp2_with fail
  go_region
  go_wp2_with fail
  go_end0
  have q : HoldV (w.setCell ⟨b, 0, none⟩ (.int .i64 (s + (ms - s / 8)))).drew b _ 23 := H.out.putb 0 (.int .i64 (s + (ms - s / 8)))
  have q2 := q.putb 1 (.int .i64 (v + (max (ms - s / 8) (-(ms - s / 8)) - v / 4)))
  simp only [List.setIfInBounds_toArray, List.set_cons_zero, List.set_cons_succ] at q2
  exact ⟨rfl, q2, gsetb (gdrew (gsetb (grefl _ _) 0 _)) 1 _⟩
set_option maxHeartbeats 4000000 in
theorem implBackoff_bad (s v r : Int) (k : Bool) (h : rtoB s v r k = false) : ExCRto 22 #[.agg #[.int .i64 s, .int .i64 v, .int .i64 r, .bool k]] 0 0 0 false 1 := by
  intro w
  have CB := hide (fun W => validRto_walk s v r k W)
  rw [h] at CB
  clear h
  have HB := hide (Bx.start w #[.int .i64 (s), .int .i64 (v), .int .i64 (r), .bool k] #[.int .i64 0, .int .i64 0, .int .i64 0, .bool false] 23)
  go_enter Try.func22, Try.ntmps22
  go_wp2_with fail
  generalize (w.alloc (.cells #[.int .i64 (s), .int .i64 (v), .int .i64 (r), .bool k] 23)).alloc (.cells #[.int .i64 0, .int .i64 0, .int .i64 0, .bool false] 23) = W at *
  refine (CB.out _).mono ?_
  rintro e w1 ⟨rfl, hb1⟩
  have HB1 := hide (HB.out.next hb1)
  clear HB hb1
  have k0 := HB1.out.2.1.cell 0 _ rfl; have k1 := HB1.out.2.1.cell 1 _ rfl; have k2 := HB1.out.2.1.cell 2 _ rfl; have k3 := HB1.out.2.1.cell 3 _ rfl; have r0 := HB1.out.2.2.cell 0 _ rfl; have r1 := HB1.out.2.2.cell 1 _ rfl; have r2 := HB1.out.2.2.cell 2 _ rfl; have r3 := HB1.out.2.2.cell 3 _ rfl
  have kf := HB1.out.2.1.frozen; have rf := HB1.out.2.2.frozen
  go_wp2_with fail
  refine Bx.four (P := fun X => bodyPost Try.prog Try.f22 _ _ _ X) (HB1.out) ?_
  intro W9 h9
  have r0 := h9.2.2.cell 0 _ rfl; have r1 := h9.2.2.cell 1 _ rfl; have r2 := h9.2.2.cell 2 _ rfl; have r3 := h9.2.2.cell 3 _ rfl
  exact bodyPost_ret (v := .tuple #[.agg #[.int .i64 (0), .int .i64 (0), .int .i64 (0), .bool false], .int .i64 1]) (by simp [results, Try.results22, go_sem, r0, r1, r2, r3]) rfl ⟨rfl, h9.1⟩
set_option maxHeartbeats 4000000 in
theorem implBackoff_ok (s v r : Int) (k : Bool) (hr : rtoB s v r k = true) : ExCRto 22 #[.agg #[.int .i64 s, .int .i64 v, .int .i64 r, .bool k]] s v (min (2 * r) 60000) k 0 := by
  intro w
  have CB := hide (fun W => validRto_walk s v r k W)
  obtain ⟨⟨s0, s1⟩, ⟨v0, v1⟩, ⟨q0, q1⟩, hk⟩ := rtoB_iff.1 hr
  rw [hr] at CB
  clear hr hk
  have HB := hide (Bx.start w #[.int .i64 (s), .int .i64 (v), .int .i64 (r), .bool k] #[.int .i64 0, .int .i64 0, .int .i64 0, .bool false] 23)
  go_enter Try.func22, Try.ntmps22
  go_wp2_with fail
  generalize (w.alloc (.cells #[.int .i64 (s), .int .i64 (v), .int .i64 (r), .bool k] 23)).alloc (.cells #[.int .i64 0, .int .i64 0, .int .i64 0, .bool false] 23) = W at *
  refine (CB.out _).mono ?_
  rintro e w1 ⟨rfl, hb1⟩
  have HB1 := hide (HB.out.next hb1)
  clear HB hb1
  have k0 := HB1.out.2.1.cell 0 _ rfl; have k1 := HB1.out.2.1.cell 1 _ rfl; have k2 := HB1.out.2.1.cell 2 _ rfl; have k3 := HB1.out.2.1.cell 3 _ rfl; have r0 := HB1.out.2.2.cell 0 _ rfl; have r1 := HB1.out.2.2.cell 1 _ rfl; have r2 := HB1.out.2.2.cell 2 _ rfl; have r3 := HB1.out.2.2.cell 3 _ rfl
  have kf := HB1.out.2.1.frozen; have rf := HB1.out.2.2.frozen
  go_wp2_with fail
  refine Bx.four (P := fun X => bodyPost Try.prog Try.f22 _ _ _ X) (HB1.out.put 2 (.int .i64 (min (2 * r) 60000))) ?_
  intro W9 h9
  have r0 := h9.2.2.cell 0 _ rfl; have r1 := h9.2.2.cell 1 _ rfl; have r2 := h9.2.2.cell 2 _ rfl; have r3 := h9.2.2.cell 3 _ rfl
  exact bodyPost_ret (v := .tuple #[.agg #[.int .i64 (s), .int .i64 (v), .int .i64 (min (2 * r) 60000), .bool k], .int .i64 0]) (by simp [results, Try.results22, go_sem, r0, r1, r2, r3]) rfl ⟨rfl, h9.1⟩
set_option maxHeartbeats 4000000 in
theorem implSample_bad (s v r : Int) (k : Bool) (ms : Int) (h : (rtoB s v r k && inB ms 0 1000000) = false) : ExCRto 23 #[.agg #[.int .i64 s, .int .i64 v, .int .i64 r, .bool k], .int .i64 ms] 0 0 0 false 1 := by
  intro w
  have CB := hide (fun W => validRto_walk s v r k W)
  have CM := hide (fun W => isSample_walk ms W)
  cases hr : rtoB s v r k with
  | false =>
    rw [hr] at CB
    clear h hr
    have HB := hide (Bx.start w #[.int .i64 (s), .int .i64 (v), .int .i64 (r), .bool k] #[.int .i64 0, .int .i64 0, .int .i64 0, .bool false] 23)
    go_enter Try.func23, Try.ntmps23
    go_wp2_with fail
    generalize (w.alloc (.cells #[.int .i64 (s), .int .i64 (v), .int .i64 (r), .bool k] 23)).alloc (.cells #[.int .i64 0, .int .i64 0, .int .i64 0, .bool false] 23) = W at *
    refine (CB.out _).mono ?_
    rintro e w1 ⟨rfl, hb1⟩
    have HB1 := hide (HB.out.next hb1)
    clear HB hb1
    have k0 := HB1.out.2.1.cell 0 _ rfl; have k1 := HB1.out.2.1.cell 1 _ rfl; have k2 := HB1.out.2.1.cell 2 _ rfl; have k3 := HB1.out.2.1.cell 3 _ rfl; have r0 := HB1.out.2.2.cell 0 _ rfl; have r1 := HB1.out.2.2.cell 1 _ rfl; have r2 := HB1.out.2.2.cell 2 _ rfl; have r3 := HB1.out.2.2.cell 3 _ rfl
    have kf := HB1.out.2.1.frozen; have rf := HB1.out.2.2.frozen
    go_wp2_with fail
    refine Bx.four (P := fun X => bodyPost Try.prog Try.f23 _ _ _ X) (HB1.out) ?_
    intro W9 h9
    have r0 := h9.2.2.cell 0 _ rfl; have r1 := h9.2.2.cell 1 _ rfl; have r2 := h9.2.2.cell 2 _ rfl; have r3 := h9.2.2.cell 3 _ rfl
    exact bodyPost_ret (v := .tuple #[.agg #[.int .i64 (0), .int .i64 (0), .int .i64 (0), .bool false], .int .i64 1]) (by simp [results, Try.results23, go_sem, r0, r1, r2, r3]) rfl ⟨rfl, h9.1⟩
  | true =>
    have hm : inB ms 0 1000000 = false := by rw [hr] at h; simpa using h
    rw [hr] at CB
    rw [hm] at CM
    clear h hr hm
    have HB := hide (Bx.start w #[.int .i64 (s), .int .i64 (v), .int .i64 (r), .bool k] #[.int .i64 0, .int .i64 0, .int .i64 0, .bool false] 23)
    go_enter Try.func23, Try.ntmps23
    go_wp2_with fail
    generalize (w.alloc (.cells #[.int .i64 (s), .int .i64 (v), .int .i64 (r), .bool k] 23)).alloc (.cells #[.int .i64 0, .int .i64 0, .int .i64 0, .bool false] 23) = W at *
    refine (CB.out _).mono ?_
    rintro e w1 ⟨rfl, hb1⟩
    have HB1 := hide (HB.out.next hb1)
    clear HB hb1
    have k0 := HB1.out.2.1.cell 0 _ rfl; have k1 := HB1.out.2.1.cell 1 _ rfl; have k2 := HB1.out.2.1.cell 2 _ rfl; have k3 := HB1.out.2.1.cell 3 _ rfl; have r0 := HB1.out.2.2.cell 0 _ rfl; have r1 := HB1.out.2.2.cell 1 _ rfl; have r2 := HB1.out.2.2.cell 2 _ rfl; have r3 := HB1.out.2.2.cell 3 _ rfl
    have kf := HB1.out.2.1.frozen; have rf := HB1.out.2.2.frozen
    go_wp2_with fail
    refine (CM.out _).mono ?_
    rintro e w2 ⟨rfl, rfl⟩
    go_wp2_with fail
    refine Bx.four (P := fun X => bodyPost Try.prog Try.f23 _ _ _ X) (HB1.out) ?_
    intro W9 h9
    have r0 := h9.2.2.cell 0 _ rfl; have r1 := h9.2.2.cell 1 _ rfl; have r2 := h9.2.2.cell 2 _ rfl; have r3 := h9.2.2.cell 3 _ rfl
    exact bodyPost_ret (v := .tuple #[.agg #[.int .i64 (0), .int .i64 (0), .int .i64 (0), .bool false], .int .i64 1]) (by simp [results, Try.results23, go_sem, r0, r1, r2, r3]) rfl ⟨rfl, h9.1⟩
set_option maxHeartbeats 4000000 in
theorem implSample_ok (s v r : Int) (k : Bool) (ms : Int) (hr : rtoB s v r k = true) (hm : inB ms 0 1000000 = true) : ExCRto 23 #[.agg #[.int .i64 s, .int .i64 v, .int .i64 r, .bool k], .int .i64 ms] (smS s ms k) (smV s v ms k) (smR s v ms k) true 0 := by
  intro w
  have CB := hide (fun W => validRto_walk s v r k W)
  have CM := hide (fun W => isSample_walk ms W)
  obtain ⟨⟨s0, s1⟩, ⟨v0, v1⟩, ⟨r0, r1⟩, hk⟩ := rtoB_iff.1 hr
  obtain ⟨m0, m1⟩ := inB_iff.1 hm
  rw [hr] at CB
  rw [hm] at CM
  clear hr hm r0 r1
  cases k with
  | false =>
    obtain ⟨S, hS⟩ : ∃ x, x = ms * 8 := ⟨_, rfl⟩
    obtain ⟨V, hV⟩ : ∃ x, x = ms * 4 / 2 := ⟨_, rfl⟩
    have S0 : 0 ≤ S := by omega
    have S1 : S ≤ 8000000 := by omega
    have V0 : 0 ≤ V := by omega
    have V1 : V ≤ 16000000 := by omega
    have ES : Hid (smS s ms false = S) := hide (by unfold smS; simp <;> omega)
    have EV : Hid (smV s v ms false = V) := hide (by unfold smV; simp <;> omega)
    have ER : Hid (smR s v ms false = min (max (S / 8 + max V 1) 200) 60000) := hide (by unfold smR wiB; rw [ES.out, EV.out]; (repeat split) <;> omega)
    have CC := hide (fun W h => by have q := begin_walk w.heap.size s v r false ms W h m0 m1; rw [← hS, ← hV] at q; exact q)
    clear hS hV
    have HB := hide (Bx.start w #[.int .i64 (s), .int .i64 (v), .int .i64 (r), .bool false] #[.int .i64 0, .int .i64 0, .int .i64 0, .bool false] 23)
    go_enter Try.func23, Try.ntmps23
    go_wp2_with fail
    generalize (w.alloc (.cells #[.int .i64 (s), .int .i64 (v), .int .i64 (r), .bool false] 23)).alloc (.cells #[.int .i64 0, .int .i64 0, .int .i64 0, .bool false] 23) = W at *
    refine (CB.out _).mono ?_
    rintro e w1 ⟨rfl, hb1⟩
    have HB1 := hide (HB.out.next hb1)
    clear HB hb1
    have k0 := HB1.out.2.1.cell 0 _ rfl; have k1 := HB1.out.2.1.cell 1 _ rfl; have k2 := HB1.out.2.1.cell 2 _ rfl; have k3 := HB1.out.2.1.cell 3 _ rfl; have r0 := HB1.out.2.2.cell 0 _ rfl; have r1 := HB1.out.2.2.cell 1 _ rfl; have r2 := HB1.out.2.2.cell 2 _ rfl; have r3 := HB1.out.2.2.cell 3 _ rfl
    have kf := HB1.out.2.1.frozen; have rf := HB1.out.2.2.frozen
    go_wp2_with fail
    refine (CM.out _).mono ?_
    rintro e w2 ⟨rfl, rfl⟩
    go_wp2_with fail
    refine (CC.out _ HB1.out.2.1).mono ?_
    rintro e w3 ⟨rfl, hH, hg⟩
    have HB3 := hide (HB1.out.into hg hH)
    clear HB1 hH hg k0 k1 k2 k3 kf r0 r1 r2 r3 rf
    have k0 := HB3.out.2.1.cell 0 _ rfl; have k1 := HB3.out.2.1.cell 1 _ rfl; have k2 := HB3.out.2.1.cell 2 _ rfl; have k3 := HB3.out.2.1.cell 3 _ rfl; have r0 := HB3.out.2.2.cell 0 _ rfl; have r1 := HB3.out.2.2.cell 1 _ rfl; have r2 := HB3.out.2.2.cell 2 _ rfl; have r3 := HB3.out.2.2.cell 3 _ rfl
    have kf := HB3.out.2.1.frozen; have rf := HB3.out.2.2.frozen
    go_wp2_with fail
    refine Bx.four (P := fun X => bodyPost Try.prog Try.f23 _ _ _ X) (HB3.out.put 2 (.int .i64 (min (max (S / 8 + max V 1) 200) 60000))) ?_
    intro W9 h9
    have r0 := h9.2.2.cell 0 _ rfl; have r1 := h9.2.2.cell 1 _ rfl; have r2 := h9.2.2.cell 2 _ rfl; have r3 := h9.2.2.cell 3 _ rfl
    exact bodyPost_ret (v := .tuple #[.agg #[.int .i64 (S), .int .i64 (V), .int .i64 (min (max (S / 8 + max V 1) 200) 60000), .bool true], .int .i64 0]) (by simp [results, Try.results23, go_sem, r0, r1, r2, r3]) rfl ⟨ret_four (i64_eq ES.out.symm) (i64_eq EV.out.symm) (i64_eq ER.out.symm) rfl rfl, h9.1⟩
  | true =>
    obtain ⟨S, hS⟩ : ∃ x, x = s + (ms - s / 8) := ⟨_, rfl⟩
    obtain ⟨V, hV⟩ : ∃ x, x = v + (max (ms - s / 8) (-(ms - s / 8)) - v / 4) := ⟨_, rfl⟩
    have S0 : 0 ≤ S := by omega
    have S1 : S ≤ 8000000 := by omega
    have V0 : 0 ≤ V := by omega
    have V1 : V ≤ 16000000 := by omega
    have ES : Hid (smS s ms true = S) := hide (by unfold smS; simp <;> omega)
    have EV : Hid (smV s v ms true = V) := hide (by unfold smV; simp <;> omega)
    have ER : Hid (smR s v ms true = min (max (S / 8 + max V 1) 200) 60000) := hide (by unfold smR wiB; rw [ES.out, EV.out]; (repeat split) <;> omega)
    have CC := hide (fun W h => by have q := smooth_walk w.heap.size s v r true ms W h m0 m1 s0 s1 v0 v1; rw [← hS, ← hV] at q; exact q)
    clear hS hV
    have HB := hide (Bx.start w #[.int .i64 (s), .int .i64 (v), .int .i64 (r), .bool true] #[.int .i64 0, .int .i64 0, .int .i64 0, .bool false] 23)
    go_enter Try.func23, Try.ntmps23
    go_wp2_with fail
    generalize (w.alloc (.cells #[.int .i64 (s), .int .i64 (v), .int .i64 (r), .bool true] 23)).alloc (.cells #[.int .i64 0, .int .i64 0, .int .i64 0, .bool false] 23) = W at *
    refine (CB.out _).mono ?_
    rintro e w1 ⟨rfl, hb1⟩
    have HB1 := hide (HB.out.next hb1)
    clear HB hb1
    have k0 := HB1.out.2.1.cell 0 _ rfl; have k1 := HB1.out.2.1.cell 1 _ rfl; have k2 := HB1.out.2.1.cell 2 _ rfl; have k3 := HB1.out.2.1.cell 3 _ rfl; have r0 := HB1.out.2.2.cell 0 _ rfl; have r1 := HB1.out.2.2.cell 1 _ rfl; have r2 := HB1.out.2.2.cell 2 _ rfl; have r3 := HB1.out.2.2.cell 3 _ rfl
    have kf := HB1.out.2.1.frozen; have rf := HB1.out.2.2.frozen
    go_wp2_with fail
    refine (CM.out _).mono ?_
    rintro e w2 ⟨rfl, rfl⟩
    go_wp2_with fail
    refine (CC.out _ HB1.out.2.1).mono ?_
    rintro e w3 ⟨rfl, hH, hg⟩
    have HB3 := hide (HB1.out.into hg hH)
    clear HB1 hH hg k0 k1 k2 k3 kf r0 r1 r2 r3 rf
    have k0 := HB3.out.2.1.cell 0 _ rfl; have k1 := HB3.out.2.1.cell 1 _ rfl; have k2 := HB3.out.2.1.cell 2 _ rfl; have k3 := HB3.out.2.1.cell 3 _ rfl; have r0 := HB3.out.2.2.cell 0 _ rfl; have r1 := HB3.out.2.2.cell 1 _ rfl; have r2 := HB3.out.2.2.cell 2 _ rfl; have r3 := HB3.out.2.2.cell 3 _ rfl
    have kf := HB3.out.2.1.frozen; have rf := HB3.out.2.2.frozen
    go_wp2_with fail
    refine Bx.four (P := fun X => bodyPost Try.prog Try.f23 _ _ _ X) (HB3.out.put 2 (.int .i64 (min (max (S / 8 + max V 1) 200) 60000))) ?_
    intro W9 h9
    have r0 := h9.2.2.cell 0 _ rfl; have r1 := h9.2.2.cell 1 _ rfl; have r2 := h9.2.2.cell 2 _ rfl; have r3 := h9.2.2.cell 3 _ rfl
    exact bodyPost_ret (v := .tuple #[.agg #[.int .i64 (S), .int .i64 (V), .int .i64 (min (max (S / 8 + max V 1) 200) 60000), .bool true], .int .i64 0]) (by simp [results, Try.results23, go_sem, r0, r1, r2, r3]) rfl ⟨ret_four (i64_eq ES.out.symm) (i64_eq EV.out.symm) (i64_eq ER.out.symm) rfl rfl, h9.1⟩
end Go.Proofs.Ytnnijikfppijfaa
