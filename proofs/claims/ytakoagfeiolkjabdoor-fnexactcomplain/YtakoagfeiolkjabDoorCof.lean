/-
Contracts of functions of this seat.
-/
import Derived.Test.YtakoagfeiolkjabDoorRows
import Derived.WalkKit
import Derived.ProofKit
import Derived.OpenShut
import Derived.Test.YtakoagfeiolkjabDoorCmi
import Derived.Test.YtakoagfeiolkjabDoorQof
import Derived.Test.YtakoagfeiolkjabDoorMai
import Derived.Test.YtakoagfeiolkjabDoorCo2
namespace Go.Proofs.YtakoagfeiolkjabDoor
open Go.ChangeShapes Go.WideShapes Go.ChangeAt Go.RowKit
set_option linter.unusedVariables false
set_option maxRecDepth 100000
theorem quote_is (x0 x1 : Int) (x2 x3 : Bool) (x4 x5 x6 x7 x8 : Int) (z0 z1 : List Int) (h : ipC x0 x1 x4 x5 x6 x7 x8 z0.length z1.length = 0) (K : Nat) (hK : K ≤ z1.length) : (ipL x0 x1 x2 x3 x4 x5 x6 x7 x8 z0 z1).take (20 + z0.length + K) = ipHead x0 x1 x2 x3 x4 x5 x6 x7 x8 z0 z1.length ++ z1.take K := by
  unfold ipL
  rw [if_pos h, List.take_append, ipHead_len, List.take_of_length_le (by rw [ipHead_len]; omega)]
  congr 2
  omega
theorem quoteOf_walk (x0 x1 : Int) (x2 x3 : Bool) (x4 x5 x6 x7 x8 : Int) (a0 : Option Addr) (n0 c0 : Nat) (a1 : Option Addr) (n1 c1 : Nat) (z0 z1 : List Int) (w : World) (h0n : z0.length = n0) (h0a : Arr w a0 z0) (h1n : z1.length = n1) (h1a : Arr w a1 z1) (m1 : n1 ≤ 1048576) (q1 : n1 ≤ c1) (h : ipC x0 x1 x4 x5 x6 x7 x8 n0 n1 = 0) :
    Calls Tryd.prog 73 #[.agg #[.int .i64 x0, .int .i64 x1, .bool x2, .bool x3, .int .i64 x4, .int .i64 x5, .int .i64 x6, .int .i64 x7, .int .i64 x8, .slice a0 n0 c0, .slice a1 n1 c1]] w fun e w' => ∃ v : Value, e = .returned v ∧ OwnB w' w.heap.size v ((ipL x0 x1 x2 x3 x4 x5 x6 x7 x8 z0 z1).take (coE n0 n1)) ∧ Below w.heap.size w w' := by
  subst h0n h1n
  obtain ⟨hok, _⟩ := ipC_adr h
  obtain ⟨_, l0, l1⟩ := ipL_is (x2 := x2) (x3 := x3) h
  have hN : 20 + (z0.length : Int) + (z1.length : Int) = ((20 + z0.length + z1.length : Nat) : Int) := by omega
  have hd := head_is x0 x1 x2 x3 x4 x5 x6 x7 x8 z0 z1.length _ hok hN h0a.1
  by_cases h8 : z1.length ≤ 8
  · refine quoteOf_all x0 x1 x2 x3 x4 x5 x6 x7 x8 a0 _ c0 a1 _ c1 z0 z1 w rfl h0a rfl h1a (by omega) m1 q1 h8 (by omega) _ hN _ ?_
    rw [hd, ← quote_is x0 x1 x2 x3 x4 x5 x6 x7 x8 z0 z1 h z1.length (Nat.le_refl _)]
    congr 1
    unfold coE
    split <;> omega
  · refine quoteOf_cut x0 x1 x2 x3 x4 x5 x6 x7 x8 a0 _ c0 a1 _ c1 z0 z1 w rfl h0a rfl h1a (by omega) m1 q1 (by omega) (by omega) _ hN _ ?_
    rw [hd, ← quote_is x0 x1 x2 x3 x4 x5 x6 x7 x8 z0 z1 h 8 (by omega)]
    congr 1
    unfold coE
    rw [if_pos (by omega)]
    omega
theorem mayB_ip {x0 x1 x4 x5 x6 x7 x8 : Int} {n0 : Nat} {z1 : List Int} (h : mayB x0 x1 x4 x5 x6 x7 x8 n0 z1 = true) : ipC x0 x1 x4 x5 x6 x7 x8 n0 z1.length = 0 := by
  unfold mayB at h
  simp only [Bool.and_eq_true, decide_eq_true_eq] at h
  exact h.1.1.1.1
theorem aboutN_two (k : Int) : (aboutN k != 2) = !(decide (k = 3) || decide (k = 11)) := by
  unfold aboutN
  by_cases h8 : k = 8
  · subst h8; rfl
  by_cases h0 : k = 0
  · subst h0; rfl
  by_cases h3 : k = 3
  · subst h3; rfl
  by_cases h11 : k = 11
  · subst h11; rfl
  rw [if_neg h8, if_neg h0, if_neg h3, if_neg h11, decide_eq_false h3, decide_eq_false h11]
  rfl
set_option maxHeartbeats 2000000 in
/-- Complain of the program. -/
theorem implComplain (x0 x1 : Int) (x2 x3 : Bool) (x4 x5 x6 x7 x8 : Int) (z0 z1 : List Int) (fr kd cd rs : Int) : ComplainP 34 ErrT x0 x1 x2 x3 x4 x5 x6 x7 x8 z0 z1 fr kd cd rs 0 0 false false 0 (coI (coB x0 x1 x4 x5 x6 x7 x8 z0.length z1 fr kd cd rs) 64) (coI (coB x0 x1 x4 x5 x6 x7 x8 z0.length z1 fr kd cd rs) 1) (coI (coB x0 x1 x4 x5 x6 x7 x8 z0.length z1 fr kd cd rs) fr) (coI (coB x0 x1 x4 x5 x6 x7 x8 z0.length z1 fr kd cd rs) x7) [] (coL x0 x1 x2 x3 x4 x5 x6 x7 x8 z0 z1 fr kd cd rs) (if coB x0 x1 x4 x5 x6 x7 x8 z0.length z1 fr kd cd rs then 0 else 1) := by
  intro a0 n0 c0 a1 n1 c1 W h0n h0a k0 m0 h1n h1a k1 m1 he
  subst h0n h1n
  have cM := fun (V : World) (hb : Below W.heap.size W V) => implMay x0 x1 x2 x3 x4 x5 x6 x7 x8 z0 z1 (fun _ => True) a0 _ c0 a1 _ c1 V rfl (h0a.below hb (Nat.le_refl _)) k0 m0 rfl (h1a.below hb (Nat.le_refl _)) k1 m1 trivial
  have bad : coB x0 x1 x4 x5 x6 x7 x8 z0.length z1 fr kd cd rs = false → ∀ e w', e = Ending.returned (.tuple #[.agg #[.int .i64 0, .int .i64 0, .bool false, .bool false, .int .i64 0, .int .i64 0, .int .i64 0, .int .i64 0, .int .i64 0, .slice none 0 0, .slice none 0 0], .int .i64 1]) ∧ Below W.heap.size W w' → ∃ v0_0 v0_1 : Value, e = .returned (.tuple #[.agg #[.int .i64 0, .int .i64 0, .bool false, .bool false, .int .i64 0, .int .i64 (coI (coB x0 x1 x4 x5 x6 x7 x8 z0.length z1 fr kd cd rs) 64), .int .i64 (coI (coB x0 x1 x4 x5 x6 x7 x8 z0.length z1 fr kd cd rs) 1), .int .i64 (coI (coB x0 x1 x4 x5 x6 x7 x8 z0.length z1 fr kd cd rs) fr), .int .i64 (coI (coB x0 x1 x4 x5 x6 x7 x8 z0.length z1 fr kd cd rs) x7), v0_0, v0_1], .int .i64 (if coB x0 x1 x4 x5 x6 x7 x8 z0.length z1 fr kd cd rs then 0 else 1)]) ∧ OwnB w' W.heap.size v0_0 [] ∧ OwnB w' W.heap.size v0_1 (coL x0 x1 x2 x3 x4 x5 x6 x7 x8 z0 z1 fr kd cd rs) ∧ (∀ b, v0_0.ownBlock = some b → v0_1.ownBlock ≠ some b) ∧ Below W.heap.size W w' := by
    rintro hB e w' ⟨rfl, hb⟩
    have nil : OwnB w' W.heap.size (.slice none 0 0) [] := ⟨World.ownsRow_nil _ _ _ _, by simp⟩
    refine ⟨_, _, by rw [hB]; rfl, nil, ?_, fun b h => (by cases h), hb⟩
    unfold coL
    rw [hB]
    exact nil
  cases hM : mayB x0 x1 x4 x5 x6 x7 x8 z0.length z1 with
  | false =>
    rw [hM] at cM
    exact (implCom_may x0 x1 x2 x3 x4 x5 x6 x7 x8 a0 _ c0 a1 _ c1 fr kd cd rs W cM).mono (bad (by unfold coB; rw [hM]; rfl))
  | true =>
    rw [hM] at cM
    have hC := mayB_ip hM
    obtain ⟨lq, l0, l1⟩ := ipL_is (x2 := x2) (x3 := x3) hC
    cases hA : adrB fr with
    | false => exact (implCom_from x0 x1 x2 x3 x4 x5 x6 x7 x8 a0 _ c0 a1 _ c1 fr kd cd rs W cM hA).mono (bad (by unfold coB; rw [hM, hA]; rfl))
    | true =>
      have cQ := fun (V : World) (hb : Below W.heap.size W V) => quoteOf_walk x0 x1 x2 x3 x4 x5 x6 x7 x8 a0 _ c0 a1 _ c1 z0 z1 V rfl (h0a.below hb (Nat.le_refl _)) rfl (h1a.below hb (Nat.le_refl _)) m1 k1 hC
      have hql : ((ipL x0 x1 x2 x3 x4 x5 x6 x7 x8 z0 z1).take (coE z0.length z1.length)).length ≤ 68 := by
        rw [List.length_take]
        unfold coE
        split <;> omega
      cases hK : (decide (kd = 3) || decide (kd = 11)) with
      | false => exact (implCom_kind x0 x1 x2 x3 x4 x5 x6 x7 x8 a0 _ c0 a1 _ c1 fr kd cd rs W cM hA _ (by omega) cQ (by rw [aboutN_two, hK]; rfl)).mono (bad (by unfold coB; rw [hM, hA, hK]; rfl))
      | true =>
        have hkd : inB kd 0 255 = true := by
          rw [inB_iff]
          rcases Bool.or_eq_true _ _ |>.mp hK with h | h
          · have := of_decide_eq_true h; omega
          · have := of_decide_eq_true h; omega
        have cE := implEncIcmp kd cd rs ((ipL x0 x1 x2 x3 x4 x5 x6 x7 x8 z0 z1).take (coE z0.length z1.length))
        cases hV : (inB cd 0 255 && inB rs 0 4294967295) with
        | false =>
          have hc1 : icC kd cd rs ((ipL x0 x1 x2 x3 x4 x5 x6 x7 x8 z0 z1).take (coE z0.length z1.length)).length = 1 := by
            unfold icC icOK
            rw [hkd, Bool.true_and, hV]
            rfl
          exact (implCom_enc x0 x1 x2 x3 x4 x5 x6 x7 x8 a0 _ c0 a1 _ c1 fr kd cd rs W cM hA _ (by omega) cQ (by rw [aboutN_two, hK]; rfl) _ _ cE he (by rw [hc1]; rfl)).mono (bad (by unfold coB; rw [hM, hA, hK, Bool.true_and, Bool.true_and, Bool.true_and, hV]))
        | true =>
          have hc0 : icC kd cd rs ((ipL x0 x1 x2 x3 x4 x5 x6 x7 x8 z0 z1).take (coE z0.length z1.length)).length = 0 := by
            unfold icC icOK
            rw [hkd, Bool.true_and, hV, if_pos rfl, if_neg (by omega)]
          have hB : coB x0 x1 x4 x5 x6 x7 x8 z0.length z1 fr kd cd rs = true := by unfold coB; rw [hM, hA, hK, Bool.true_and, Bool.true_and, Bool.true_and, hV]
          refine (implCom_good x0 x1 x2 x3 x4 x5 x6 x7 x8 a0 _ c0 a1 _ c1 fr kd cd rs W cM hA _ (by omega) cQ (by rw [aboutN_two, hK]; rfl) _ _ cE he (by rw [hc0]; rfl)).mono ?_
          rintro e w' ⟨v, rfl, hO, hb⟩
          refine ⟨.slice none 0 0, v, by rw [hB]; rfl, ⟨World.ownsRow_nil _ _ _ _, by simp⟩, ?_, fun b h => (by cases h), hb⟩
          unfold coL
          rw [hB, if_pos rfl]
          exact hO
end Go.Proofs.YtakoagfeiolkjabDoor
