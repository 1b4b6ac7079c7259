/-
Contracts of functions of this seat.
-/
import Derived.Test.YtgegnkboibgbgaaRows
import Derived.WalkKit
import Derived.ProofKit
import Derived.OpenShut
import Derived.Test.YtgegnkboibgbgaaRtm
import Derived.Test.YtgegnkboibgbgaaDcg
namespace Go.Proofs.Ytgegnkboibgbgaa
open Go.ChangeShapes Go.WideShapes Go.ChangeAt Go.RowKit
set_option linter.unusedVariables false
set_option maxRecDepth 100000
abbrev sVia : ByteArray := ⟨#[32, 118, 105, 97, 32]⟩
abbrev sLink : ByteArray := ⟨#[32, 108, 105, 110, 107, 32]⟩
abbrev sMetric : ByteArray := ⟨#[32, 109, 101, 116, 114, 105, 99, 32]⟩
abbrev sNl : ByteArray := ⟨#[10]⟩
def srV (o : ByteArray) (v : Int) : ByteArray := if v = 0 then o else o ++ sVia ++ showA v
def srM (o : ByteArray) (m : Int) : ByteArray := if m = 0 then o else o ++ sMetric ++ decG m.toNat
/-- A route's line behind what there is. -/
def srStep (o : ByteArray) (a b v l m : Int) : ByteArray := srM (srV (o ++ showP a b) v ++ sLink ++ decG l.toNat) m ++ sNl
def srText (zs : List Int) : Nat → ByteArray
  | 0 => ⟨#[]⟩
  | k + 1 => srStep (srText zs k) (rA zs k) (rB zs k) (rV zs k) (rL zs k) (rM zs k)
def srAll (zs : List Int) : Nat → Bool
  | 0 => true
  | k + 1 => srAll zs k && rtOK (rA zs k) (rB zs k) (rV zs k) (rL zs k) (rM zs k)
theorem srAll_mono {zs : List Int} {n : Nat} : ∀ {k : Nat}, k < n → rtOK (rA zs k) (rB zs k) (rV zs k) (rL zs k) (rM zs k) = false → srAll zs n = false := by
  induction n with
  | zero => intro k h; omega
  | succ n ih =>
    intro k h hk
    show (srAll zs n && _) = false
    by_cases e : k = n
    · subst e; rw [hk, Bool.and_false]
    · rw [ih (by omega) hk, Bool.false_and]
/-- ShowRoutes' code. -/
def srC (zs : List Int) (n : Nat) : Int := if 64 < n then 8 else if srAll zs n then 0 else 1
def srS (zs : List Int) (n : Nat) : ByteArray := if srC zs n = 0 then srText zs n else ⟨#[]⟩
theorem showP_size (a b : Int) : (showP a b).size ≤ 19 := by
  unfold showP
  rw [ByteArray.size_append, ByteArray.size_append]
  have := showA_size a
  have := decL_size (n := b)
  have : (⟨#[47]⟩ : ByteArray).size = 1 := rfl
  omega
theorem rtOK_parts {a b v l m : Int} (h : rtOK a b v l m = true) : prefB a b = true ∧ (v ≠ 0 → adrB v = true) ∧ (0 ≤ l ∧ l ≤ 7) ∧ (0 ≤ m ∧ m ≤ 1000000) := by
  unfold rtOK at h
  simp only [Bool.and_eq_true, Bool.or_eq_true, decide_eq_true_eq] at h
  obtain ⟨⟨⟨h1, h2⟩, h3⟩, h4⟩ := h
  refine ⟨h1, fun hv => ?_, inB_iff.1 h3, inB_iff.1 h4⟩
  rcases h2 with h2 | h2
  · exact absurd h2 hv
  · unfold kindA at h2
    cases e : adrB v with
    | true => rfl
    | false => rw [e] at h2; simp at h2
end Go.Proofs.Ytgegnkboibgbgaa
