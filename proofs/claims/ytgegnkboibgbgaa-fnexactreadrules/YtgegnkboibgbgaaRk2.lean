/-
Contracts of functions of this seat.
-/
import Derived.Test.YtgegnkboibgbgaaRows
import Derived.WalkKit
import Derived.ProofKit
import Derived.OpenShut
import Derived.Test.YtgegnkboibgbgaaRps
import Derived.Test.YtgegnkboibgbgaaRpa
namespace Go.Proofs.Ytgegnkboibgbgaa
open Go.ChangeShapes Go.WideShapes Go.ChangeAt Go.RowKit
set_option linter.unusedVariables false
set_option maxRecDepth 100000
/-- key_walk, the words told in an older world. -/
theorem key_walk2 (w0 : World) (k : List UInt8) (ps : List (List UInt8)) (a : Option Addr) (n cap : Nat) (w : World) (hn : ps.length = n) (ha0 : ArrS w0 a ps) (hb0 : Below w0.heap.size w0 w) (hc : n ≤ cap) :
    Calls Try.prog 26 #[.slice a n cap, .string (bs k)] w fun e w' => ((keyT k ps = none ∧ e = .returned (.tuple #[.string ⟨#[]⟩, .slice a n cap, .bool false])) ∨ ∃ y r a', keyT k ps = some (y, r) ∧ e = .returned (.tuple #[.string (bs y), .slice a' (n - 2) (cap - 2), .bool true]) ∧ ArrS w0 a' r ∧ r.length = n - 2) ∧ Below w.heap.size w w' := by
  have ha := ha0.below hb0 (Nat.le_refl _)
  by_cases h2 : n < 2
  · refine (key_short a n cap (bs k) w h2).mono ?_
    rintro e w' ⟨rfl, rfl⟩
    refine ⟨.inl ⟨?_, rfl⟩, Below.refl _ _⟩
    match ps, hn with
    | [], _ => rfl
    | [x], _ => rfl
    | x :: y :: r, hn => simp at hn; omega
  · match ps, hn, ha0, ha with
    | x :: y :: r, hn, ha0, ha =>
      obtain ⟨b, off, e0, _, c0⟩ := ha 0 (by simp)
      subst e0
      obtain ⟨b', o', e1, _, c1⟩ := ha 1 (by simp)
      cases e1
      by_cases hx : x = k
      · refine (key_hit b off n cap (bs x) (bs y) (bs k) w (by omega) hc c0 c1 (by rw [hx]; simp)).mono ?_
        rintro e w' ⟨a', rfl, ha', hb⟩
        refine ⟨.inr ⟨y, r, a', (by show (if x = k then some (y, r) else none) = _; rw [if_pos hx]), rfl, ?_, by simp at hn; omega⟩, hb⟩
        by_cases h3 : 2 < cap
        · rw [ha' h3]
          exact ha0.drop 2
        · have : r = [] := List.length_eq_zero_iff.1 (by simp at hn; omega)
          subst this
          intro j hj
          simp at hj
      · refine (key_other b off n cap (bs x) (bs k) w (by omega) c0 (by rw [bs_toList, bs_toList]; simpa using hx)).mono ?_
        rintro e w' ⟨rfl, rfl⟩
        exact ⟨.inl ⟨(by show (if x = k then some (y, r) else none) = _; rw [if_neg hx]), rfl⟩, Below.refl _ _⟩
    | [x], hn, _, _ => simp at hn; omega
    | [], hn, _, _ => simp at hn; omega
theorem keyT_mem {k : List UInt8} {ps : List (List UInt8)} {y : List UInt8} {r : List (List UInt8)} (h : keyT k ps = some (y, r)) : y ∈ ps ∧ ∀ q ∈ r, q ∈ ps := by
  match ps, h with
  | [], h => simp [keyT] at h
  | [x], h => simp [keyT] at h
  | x :: z :: t, h =>
    have h' : (if x = k then some (z, t) else none) = some (y, r) := h
    by_cases hx : x = k
    · rw [if_pos hx] at h'
      cases h'
      exact ⟨by simp, fun q hq => by simp [hq]⟩
    · rw [if_neg hx] at h'
      simp at h'

theorem far5 {w : World} {R F j : Nat} (h : R ≠ F) {v : Option Value} {x0 x1 x2 x3 x4 : Value} (k : w.cell? ⟨F, j, none⟩ = v) : (((((w.setCell ⟨R, 0, none⟩ x0).setCell ⟨R, 1, none⟩ x1).setCell ⟨R, 2, none⟩ x2).setCell ⟨R, 3, none⟩ x3).setCell ⟨R, 4, none⟩ x4).cell? ⟨F, j, none⟩ = v := (World.cell?_setCell_far _ _ _ _ h).trans ((World.cell?_setCell_far _ _ _ _ h).trans ((World.cell?_setCell_far _ _ _ _ h).trans ((World.cell?_setCell_far _ _ _ _ h).trans ((World.cell?_setCell_far _ _ _ _ h).trans (k)))))
end Go.Proofs.Ytgegnkboibgbgaa
