/-
Contracts of functions of this seat.
-/
import Derived.Test.YtgegnkboibgbgaaRows
import Derived.WalkKit
import Derived.ProofKit
import Derived.OpenShut
import Derived.Test.YtgegnkboibgbgaaVra
import Derived.Test.YtgegnkboibgbgaaVrb
import Derived.Test.YtgegnkboibgbgaaVrc
import Derived.Test.YtgegnkboibgbgaaVrd
namespace Go.Proofs.Ytgegnkboibgbgaa
open Go.ChangeShapes Go.WideShapes Go.ChangeAt Go.RowKit
set_option linter.unusedVariables false
set_option maxRecDepth 100000
theorem staB_of {S : Int} (h : inB S 0 4 = true) (hz : ¬ S = 0) : inB S 1 4 = true := by
  have := inB_iff.1 h
  exact inB_iff.2 (by omega)
theorem staB_no {S : Int} (h : inB S 1 4 = false) (hz : ¬ S = 0) : inB S 0 4 = false := by
  cases e : inB S 0 4 with
  | false => rfl
  | true => rw [staB_of e hz] at h; cases h
theorem protB_set {P : Int} {q : Bool} (h : decide (P = 0 ∨ P = 1 ∨ P = 6 ∨ P = 17) = false) : protB P q = false := by
  have := of_decide_eq_false h
  unfold protB
  rw [decide_eq_false (by omega), decide_eq_false (by omega), decide_eq_false (by omega), decide_eq_false (by omega)]
  rfl
theorem protB_in {P : Int} {q : Bool} (h : protB P q = true) : decide (P = 0 ∨ P = 1 ∨ P = 6 ∨ P = 17) = true := by
  cases e : decide (P = 0 ∨ P = 1 ∨ P = 6 ∨ P = 17) with
  | true => rfl
  | false => rw [protB_set e] at h; cases h
theorem protB_has {P : Int} {q : Bool} (h : decide (P = 6 ∨ P = 17) = true) : protB P q = true := by
  rcases of_decide_eq_true h with rfl | rfl <;> rfl
theorem protB_not {P : Int} {q : Bool} (h : decide (P = 0 ∨ P = 1 ∨ P = 6 ∨ P = 17) = true) (h2 : decide (P = 6 ∨ P = 17) = false) : protB P q = q := by
  have h3 := of_decide_eq_true h
  have h4 := of_decide_eq_false h2
  have : P = 0 ∨ P = 1 := by omega
  rcases this with rfl | rfl <;> rfl
theorem validRule_walk (A D P sa sb sl sh da db dl dh S : Int) (w : World) : Calls Try.prog 49 #[.agg #[.int .i64 A, .int .i64 D, .int .i64 P, .int .i64 sa, .int .i64 sb, .int .i64 sl, .int .i64 sh, .int .i64 da, .int .i64 db, .int .i64 dl, .int .i64 dh, .int .i64 S]] w fun e w' => e = .returned (.bool (ruOK A D P sa sb sl sh da db dl dh S)) ∧ Below w.heap.size w w' := by
  cases hA : inB A 1 3 with
  | false => rw [show ruOK A D P sa sb sl sh da db dl dh S = false by unfold ruOK; rw [hA]; simp]; exact validRule_Af A D P sa sb sl sh da db dl dh S w hA
  | true =>
  cases hD : inB D 1 3 with
  | false => rw [show ruOK A D P sa sb sl sh da db dl dh S = false by unfold ruOK; rw [hD]; simp]; exact validRule_Df A D P sa sb sl sh da db dl dh S w hA hD
  | true =>
  cases hP : decide (P = 0 ∨ P = 1 ∨ P = 6 ∨ P = 17) with
  | false => rw [show ruOK A D P sa sb sl sh da db dl dh S = false by unfold ruOK; rw [protB_set hP]; simp]; exact validRule_Pf A D P sa sb sl sh da db dl dh S w hA hD hP
  | true =>
  by_cases hz : S = 0
  · subst hz
    cases hp : prefB sa sb with
    | false => rw [show ruOK A D P sa sb sl sh da db dl dh 0 = false by unfold ruOK; rw [hp]; simp]; exact validRule_pz A D P sa sb sl sh da db dl dh 0 w hA hD hP hp
    | true =>
    cases hs : portB sl sh with
    | false => rw [show ruOK A D P sa sb sl sh da db dl dh 0 = false by unfold ruOK; rw [hs]; simp]; exact validRule_oz A D P sa sb sl sh da db dl dh 0 w hA hD hP hp hs
    | true =>
    cases hq : prefB da db with
    | false => rw [show ruOK A D P sa sb sl sh da db dl dh 0 = false by unfold ruOK; rw [hq]; simp]; exact validRule_qz A D P sa sb sl sh da db dl dh 0 w hA hD hP hp hs hq
    | true =>
    cases hd : portB dl dh with
    | false => rw [show ruOK A D P sa sb sl sh da db dl dh 0 = false by unfold ruOK; rw [hd]; simp]; exact validRule_tz A D P sa sb sl sh da db dl dh 0 w hA hD hP hp hs hq hd
    | true =>
    cases hh : decide (P = 6 ∨ P = 17) with
    | true =>
      rw [show ruOK A D P sa sb sl sh da db dl dh 0 = true by unfold ruOK; rw [hA, hD, (show inB 0 0 4 = true from rfl), hp, hs, hq, hd, protB_has hh]; rfl]
      exact validRule_hz A D P sa sb sl sh da db dl dh 0 w hA hD hP hp hs hq hd hh
    | false =>
      rw [show ruOK A D P sa sb sl sh da db dl dh 0 = (allP sl sh && allP dl dh) by unfold ruOK; rw [hA, hD, (show inB 0 0 4 = true from rfl), hp, hs, hq, hd, protB_not hP hh]; rfl]
      exact validRule_xz A D P sa sb sl sh da db dl dh 0 w hA hD hP hp hs hq hd hh
  · have hSz : (S == 0) = false := beq_eq_false_iff_ne.2 hz
    cases hS : inB S 1 4 with
    | false => rw [show ruOK A D P sa sb sl sh da db dl dh S = false by unfold ruOK; rw [staB_no hS hz]; simp]; exact validRule_Sf A D P sa sb sl sh da db dl dh S w hA hD hP hS hSz
    | true =>
    have hS4 : inB S 0 4 = true := inB_iff.2 (by have := inB_iff.1 hS; omega)
    cases hp : prefB sa sb with
    | false => rw [show ruOK A D P sa sb sl sh da db dl dh S = false by unfold ruOK; rw [hp]; simp]; exact validRule_ps A D P sa sb sl sh da db dl dh S w hA hD hP hS hp hSz
    | true =>
    cases hs : portB sl sh with
    | false => rw [show ruOK A D P sa sb sl sh da db dl dh S = false by unfold ruOK; rw [hs]; simp]; exact validRule_os A D P sa sb sl sh da db dl dh S w hA hD hP hS hp hs hSz
    | true =>
    cases hq : prefB da db with
    | false => rw [show ruOK A D P sa sb sl sh da db dl dh S = false by unfold ruOK; rw [hq]; simp]; exact validRule_qs A D P sa sb sl sh da db dl dh S w hA hD hP hS hp hs hq hSz
    | true =>
    cases hd : portB dl dh with
    | false => rw [show ruOK A D P sa sb sl sh da db dl dh S = false by unfold ruOK; rw [hd]; simp]; exact validRule_ts A D P sa sb sl sh da db dl dh S w hA hD hP hS hp hs hq hd hSz
    | true =>
    cases hh : decide (P = 6 ∨ P = 17) with
    | true =>
      rw [show ruOK A D P sa sb sl sh da db dl dh S = true by unfold ruOK; rw [hA, hD, hS4, hp, hs, hq, hd, protB_has hh]; rfl]
      exact validRule_hs A D P sa sb sl sh da db dl dh S w hA hD hP hS hp hs hq hd hh hSz
    | false =>
      rw [show ruOK A D P sa sb sl sh da db dl dh S = (allP sl sh && allP dl dh) by unfold ruOK; rw [hA, hD, hS4, hp, hs, hq, hd, protB_not hP hh]; rfl]
      exact validRule_xs A D P sa sb sl sh da db dl dh S w hA hD hP hS hp hs hq hd hh hSz
end Go.Proofs.Ytgegnkboibgbgaa
