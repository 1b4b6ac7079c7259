/-
Contracts of functions of this seat.
-/
import Derived.Test.YtgegnkboibgbgaaRows
import Derived.WalkKit
import Derived.ProofKit
import Derived.OpenShut
import Derived.Test.YtgegnkboibgbgaaFdb
import Derived.Test.YtgegnkboibgbgaaRpa
namespace Go.Proofs.Ytgegnkboibgbgaa
open Go.ChangeShapes Go.WideShapes Go.ChangeAt Go.RowKit
set_option linter.unusedVariables false
set_option maxRecDepth 100000
def okM (x : Int × List (List UInt8) × Bool) : Bool := !x.2.2 && x.2.1.isEmpty
def okL (x : Int × List (List UInt8) × Bool) : Bool := okM (rrMet x.2.1 x.2.2)
def okV (x : Int × List (List UInt8) × Bool) : Bool := okL (rrLink x.2.1 x.2.2)
theorem psB_ill (k : List UInt8) (R : List (List UInt8)) : psB k R true = false := by cases R <;> rfl
theorem psB_cons (k x : List UInt8) (r : List (List UInt8)) : psB k (x :: r) false = (x == k) := rfl
theorem psR_no {k : List UInt8} {R : List (List UInt8)} {I : Bool} (h : psB k R I = false) : psR k R I = R := by unfold psR; rw [h]; rfl
theorem psR_yes {k : List UInt8} {R : List (List UInt8)} {I : Bool} (h : psB k R I = true) : psR k R I = R.tail := by unfold psR; rw [h]; rfl
theorem num_ill (R : List (List UInt8)) (most : Int) : (rrNum R true most).2.2 = true := by cases R <;> rfl
theorem num_nil (most : Int) : (rrNum [] false most).2.2 = true := rfl
theorem num_cons (y : List UInt8) (r : List (List UInt8)) (most : Int) : rrNum (y :: r) false most = (numX y most, r, !numOK y most) := rfl
theorem met_ill (R : List (List UInt8)) : okM (rrMet R true) = false := by
  unfold rrMet okM
  rw [psB_ill]
  rfl
theorem link_ill (R : List (List UInt8)) (I : Bool) (h : I = true ∨ psB wLink R I = false) : okL (rrLink R I) = false := by
  unfold okL rrLink
  have e : (I || !psB wLink R I) = true := by rcases h with h | h <;> rw [h] <;> simp
  rw [e, num_ill, met_ill]
theorem met_same (a b v l : Int) (R : List (List UInt8)) : rpMet a b v l R = if rtOK a b v l 0 && okM (rrMet R false) then some (a, b, v, l, (rrMet R false).1) else none := by
  match R with
  | [] =>
    have e1 : rrMet [] false = (0, [], false) := rfl
    rw [e1]
    unfold rpMet rpEnd okM
    simp [keyT]
  | [x] =>
    have e : okM (rrMet [x] false) = false := by
      unfold rrMet
      cases h : psB wMetric [x] false with
      | true => rw [psR_yes h]; rfl
      | false => rw [psR_no h]; rfl
    rw [e]
    unfold rpMet rpEnd
    simp [keyT]
  | x :: y :: r =>
    by_cases hx : x = kMetric
    · have hp : psB wMetric (x :: y :: r) false = true := by rw [psB_cons, hx]; rfl
      have e : rrMet (x :: y :: r) false = (numX y 1000000, r, !numOK y 1000000) := by
        unfold rrMet
        rw [hp, psR_yes hp]
        rfl
      rw [e]
      unfold rpMet rpEnd okM
      simp only [keyT, if_pos hx]
      rw [rtOK_met a b v l (numV y)]
      have h7 := num7 y 1000000 (by omega)
      cases hn : numOK y 1000000 with
      | true =>
        rw [hn] at h7
        obtain ⟨h8, h9⟩ := Bool.and_eq_true_iff.1 h7
        rw [h8, h9, numX_yes hn]
        cases r <;> cases rtOK a b v l 0 <;> simp
      | false =>
        rw [hn] at h7
        cases hf : numF y 7 with
        | false => simp
        | true =>
          rw [hf, Bool.true_and] at h7
          rw [h7]
          simp
    · have hp : psB wMetric (x :: y :: r) false = false := by rw [psB_cons]; exact beq_eq_false_iff_ne.2 hx
      have e : rrMet (x :: y :: r) false = (0, x :: y :: r, false) := by
        unfold rrMet
        rw [hp, psR_no hp]
        rfl
      rw [e]
      unfold rpMet rpEnd okM
      simp [keyT, if_neg hx]
theorem link_same (a b v : Int) (R : List (List UInt8)) : rpLink a b v R = if rtOK a b v 0 0 && okL (rrLink R false) then some (a, b, v, (rrLink R false).1, (rrMet (rrLink R false).2.1 (rrLink R false).2.2).1) else none := by
  match R with
  | [] => rw [link_ill [] false (.inr rfl)]; simp [rpLink, keyT]
  | [x] =>
    have e : okL (rrLink [x] false) = false := by
      cases h : psB wLink [x] false with
      | true =>
        unfold okL rrLink
        rw [h, psR_yes h]
        exact met_ill _
      | false => exact link_ill _ _ (.inr h)
    rw [e]
    simp [rpLink, keyT]
  | x :: y :: r =>
    by_cases hx : x = kLink
    · have hp : psB wLink (x :: y :: r) false = true := by rw [psB_cons, hx]; rfl
      have e : rrLink (x :: y :: r) false = (numX y 7, r, !numOK y 7) := by
        unfold rrLink
        rw [hp, psR_yes hp]
        rfl
      rw [e]
      unfold rpLink okL
      simp only [keyT, if_pos hx]
      rw [met_same, rtOK_link a b v (numV y)]
      have h7 := num7 y 7 (by omega)
      cases hn : numOK y 7 with
      | true =>
        rw [hn] at h7
        obtain ⟨h8, h9⟩ := Bool.and_eq_true_iff.1 h7
        rw [h8, h9, numX_yes hn]
        simp
      | false =>
        rw [hn] at h7
        rw [Bool.not_false, met_ill]
        cases hf : numF y 7 with
        | false => simp
        | true =>
          rw [hf, Bool.true_and] at h7
          rw [h7]
          simp
    · have hp : psB wLink (x :: y :: r) false = false := by rw [psB_cons]; exact beq_eq_false_iff_ne.2 hx
      rw [link_ill _ _ (.inr hp)]
      simp [rpLink, keyT, if_neg hx]
theorem via_plain (a b : Int) (R : List (List UInt8)) (h1 : keyT kVia R = none) (h2 : psB wVia R false = false) : rpVia a b R = if prefB a b && okV (rrVia R false) then some (a, b, (rrVia R false).1, (rrLink (rrVia R false).2.1 (rrVia R false).2.2).1, (rrMet (rrLink (rrVia R false).2.1 (rrVia R false).2.2).2.1 (rrLink (rrVia R false).2.1 (rrVia R false).2.2).2.2).1) else none := by
  have e : rrVia R false = (0, R, false) := by
    unfold rrVia
    rw [h2, psR_no h2]
    rfl
  rw [e]
  unfold rpVia okV
  rw [h1]
  simp only
  rw [link_same, rtOK_via]
  simp
theorem kindA_zero : kindA 0 ≠ 6 := by decide
theorem via_same (a b : Int) (R : List (List UInt8)) : rpVia a b R = if prefB a b && okV (rrVia R false) then some (a, b, (rrVia R false).1, (rrLink (rrVia R false).2.1 (rrVia R false).2.2).1, (rrMet (rrLink (rrVia R false).2.1 (rrVia R false).2.2).2.1 (rrLink (rrVia R false).2.1 (rrVia R false).2.2).2.2).1) else none := by
  match R with
  | [] => exact via_plain a b [] rfl rfl
  | [x] =>
    cases h : psB wVia [x] false with
    | false => exact via_plain a b [x] rfl h
    | true =>
      have e : okV (rrVia [x] false) = false := by
        unfold okV rrVia
        rw [h, psR_yes h]
        exact link_ill _ _ (.inl rfl)
      rw [e]
      have hx : x = kVia := eq_of_beq h
      subst hx
      simp [rpVia, rpLink, keyT]
  | x :: y :: r =>
    by_cases hx : x = kVia
    · have hp : psB wVia (x :: y :: r) false = true := by rw [psB_cons, hx]; rfl
      have e : rrVia (x :: y :: r) false = (adX y, r, !hoOK y) := by
        unfold rrVia
        rw [hp, psR_yes hp]
        rfl
      rw [e]
      unfold rpVia okV
      simp only [keyT, if_pos hx]
      rw [link_same, rtOK_via]
      cases hh : hoOK y with
      | true =>
        obtain ⟨h1, h2⟩ := Bool.and_eq_true_iff.1 (show (adOK y && (kindA (adX y) == 6)) = true from hh)
        have h3 : kindA (adX y) = 6 := eq_of_beq h2
        have h4 : adX y ≠ 0 := fun h => by rw [h] at h3; exact kindA_zero h3
        rw [if_pos ⟨h1, h4⟩, h3]
        simp
      | false =>
        rw [Bool.not_false, link_ill _ _ (.inl rfl)]
        by_cases hc : adOK y = true ∧ adX y ≠ 0
        · have h3 : kindA (adX y) ≠ 6 := fun h => by
            have : hoOK y = true := by unfold hoOK; rw [hc.1, h]; rfl
            rw [this] at hh
            cases hh
          rw [if_pos hc, decide_eq_false hc.2, decide_eq_false h3]
          simp
        · rw [if_neg hc]
          simp
    · refine via_plain a b _ ?_ (by rw [psB_cons]; exact beq_eq_false_iff_ne.2 hx)
      simp [keyT, if_neg hx]
theorem pf_valid {l : List UInt8} (h : pfOK l = true) : prefB (pfA l) (pfB l) = true := by
  have h0 := h
  unfold pfOK at h
  split at h
  · rename_i a b hs
    obtain ⟨e1, e2, _⟩ := pf_yes hs h0
    rw [e1, e2]
    exact (Bool.and_eq_true_iff.1 h).2
  · cases h
/-- Both read a line's words alike. -/
theorem words_same (p : List UInt8) (r : List (List UInt8)) : rtParse (p :: r) = if rrOK (p :: r) then some (pfA p, pfB p, (rrV (p :: r)).1, (rrL (p :: r)).1, (rrM (p :: r)).1) else none := by
  have e1 : rrS1 (p :: r) = (r, !pfOK p) := rfl
  have eo : rrOK (p :: r) = okV (rrVia r (!pfOK p)) := rfl
  have e0 : rtParse (p :: r) = if pfOK p then rpVia (pfA p) (pfB p) r else none := rfl
  rw [e0]
  rw [eo]
  unfold rrM rrL rrV
  rw [e1]
  cases hp : pfOK p with
  | true =>
    rw [if_pos rfl, via_same, pf_valid hp, Bool.true_and]
    rfl
  | false =>
    have e : okV (rrVia r true) = false := by
      unfold okV rrVia
      rw [psB_ill]
      exact link_ill _ _ (.inl rfl)
    rw [Bool.not_false, e]
    rfl
end Go.Proofs.Ytgegnkboibgbgaa
