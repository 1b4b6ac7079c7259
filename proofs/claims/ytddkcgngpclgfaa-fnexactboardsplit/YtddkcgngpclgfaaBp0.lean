/-
Contracts of functions of this seat.
-/
import Derived.Test.YtddkcgngpclgfaaRows
import Derived.WalkKit
import Derived.ProofKit
import Derived.OpenShut
import Derived.Test.YtddkcgngpclgfaaBs0
namespace Go.Proofs.Ytddkcgngpclgfaa
open Go.ChangeShapes Go.WideShapes Go.ChangeAt Go.RowKit
set_option linter.unusedVariables false
set_option maxRecDepth 100000
/-- A piece cut into pieces of so many bytes, and the rest. -/
def cutF : Nat → Int → PieceM → List PieceM
  | 0, _, o => [o]
  | f + 1, k, o => if k < o.f1 - o.f0 then ⟨o.f0, o.f0 + k, o.f2, o.f3, o.f4, o.f5⟩ :: cutF f k ⟨o.f0 + k, o.f1, o.f2, o.f3, o.f4, o.f5⟩ else [o]
def cutL (k : Int) (o : PieceM) : List PieceM := cutF (o.f1 - o.f0).toNat k o
def splitL (k : Int) (os : List PieceM) : List PieceM := os.flatMap (cutL k)
/-- How many pieces that makes. -/
def cntS (k : Int) : List PieceM → Int
  | [] => 0
  | o :: r => (o.f1 - o.f0 + k - 1) / k + cntS k r
theorem cutF_fuel {k : Int} (hk : 1 ≤ k) : ∀ (f g : Nat) (o : PieceM), (o.f1 - o.f0).toNat ≤ f → (o.f1 - o.f0).toNat ≤ g → cutF f k o = cutF g k o
  | 0, 0, o, _, _ => rfl
  | 0, g + 1, o, hf, _ => by
    unfold cutF
    rw [if_neg (by omega)]
  | f + 1, 0, o, _, hg => by
    unfold cutF
    rw [if_neg (by omega)]
  | f + 1, g + 1, o, hf, hg => by
    unfold cutF
    by_cases h : k < o.f1 - o.f0
    · rw [if_pos h, if_pos h, cutF_fuel hk f g _ (by show (o.f1 - (o.f0 + k)).toNat ≤ f; omega) (by show (o.f1 - (o.f0 + k)).toNat ≤ g; omega)]
    · rw [if_neg h, if_neg h]
theorem cut_big {k : Int} {o : PieceM} (hk : 1 ≤ k) (h : k < o.f1 - o.f0) : cutL k o = ⟨o.f0, o.f0 + k, o.f2, o.f3, o.f4, o.f5⟩ :: cutL k ⟨o.f0 + k, o.f1, o.f2, o.f3, o.f4, o.f5⟩ := by
  unfold cutL
  obtain ⟨f, hf⟩ : ∃ f, (o.f1 - o.f0).toNat = f + 1 := ⟨(o.f1 - o.f0).toNat - 1, by omega⟩
  rw [hf]
  conv => lhs; unfold cutF
  rw [if_pos h, cutF_fuel hk f _ _ (by show (o.f1 - (o.f0 + k)).toNat ≤ f; omega) (Nat.le_refl _)]
theorem cut_small {k : Int} {o : PieceM} (h : ¬ k < o.f1 - o.f0) : cutL k o = [o] := by
  unfold cutL
  cases (o.f1 - o.f0).toNat with
  | zero => rfl
  | succ f => unfold cutF; rw [if_neg h]
theorem cutL_ne (k : Int) (o : PieceM) : 1 ≤ (cutL k o).length := by
  unfold cutL
  cases (o.f1 - o.f0).toNat with
  | zero => exact Nat.le_refl _
  | succ f => unfold cutF; split <;> simp
theorem cutF_len {k : Int} (hk : 1 ≤ k) : ∀ (f : Nat) (o : PieceM), o.f0 < o.f1 → (o.f1 - o.f0).toNat ≤ f → ((cutF f k o).length : Int) = (o.f1 - o.f0 + k - 1) / k
  | 0, o, h0, hf => by omega
  | f + 1, o, h0, hf => by
    unfold cutF
    by_cases h : k < o.f1 - o.f0
    · rw [if_pos h, List.length_cons]
      have ih := cutF_len hk f ⟨o.f0 + k, o.f1, o.f2, o.f3, o.f4, o.f5⟩ (by show o.f0 + k < o.f1; omega) (by show (o.f1 - (o.f0 + k)).toNat ≤ f; omega)
      have e : o.f1 - o.f0 + k - 1 = (o.f1 - (o.f0 + k) + k - 1) + 1 * k := by omega
      have ih' : ((cutF f k ⟨o.f0 + k, o.f1, o.f2, o.f3, o.f4, o.f5⟩).length : Int) = (o.f1 - (o.f0 + k) + k - 1) / k := ih
      rw [e, Int.add_mul_ediv_right _ _ (by omega), ← ih']
      omega
    · rw [if_neg h]
      have e : (o.f1 - o.f0 + k - 1) / k = 1 := by
        have h1 : o.f1 - o.f0 + k - 1 = (o.f1 - o.f0 - 1) + 1 * k := by omega
        rw [h1, Int.add_mul_ediv_right _ _ (by omega), Int.ediv_eq_zero_of_lt (by omega) (by omega)]
        rfl
      rw [e]; rfl
theorem split_len {k : Int} (hk : 1 ≤ k) : ∀ (os : List PieceM), (∀ o ∈ os, o.f0 < o.f1) → ((splitL k os).length : Int) = cntS k os
  | [], _ => rfl
  | o :: os, h => by
    have h1 := cutF_len hk (o.f1 - o.f0).toNat o (h o (by simp)) (Nat.le_refl _)
    have h2 := split_len hk os (fun p hp => h p (by simp [hp]))
    show ((List.flatMap (cutL k) (o :: os)).length : Int) = _
    rw [List.flatMap_cons, List.length_append, Int.natCast_add]
    show ((cutL k o).length : Int) + ((splitL k os).length : Int) = (o.f1 - o.f0 + k - 1) / k + cntS k os
    rw [h2]
    congr 1
theorem split_ge (k : Int) : ∀ (os : List PieceM), os.length ≤ (splitL k os).length
  | [] => Nat.le_refl _
  | o :: os => by
    have h1 := cutL_ne k o
    have h2 := split_ge k os
    show os.length + 1 ≤ (List.flatMap (cutL k) (o :: os)).length
    rw [List.flatMap_cons, List.length_append]
    show _ ≤ (cutL k o).length + (splitL k os).length
    omega
theorem cnt_le {k : Int} (hk : 1 ≤ k) : ∀ (os : List PieceM) (u m : Int), chk u os = some m → 0 ≤ cntS k os ∧ cntS k os ≤ m - u
  | [], u, m, h => by cases h; simp [cntS]
  | o :: a, u, m, h => by
    by_cases hh : o.f0 = u ∧ vp o
    · rw [chk_cons hh.1 hh.2] at h
      have h1 := cnt_le hk a _ _ h
      have h2 := hh.2.1
      have h3 := hh.1
      have e1 : 0 ≤ (o.f1 - o.f0 + k - 1) / k := Int.ediv_nonneg (by omega) (by omega)
      have e2 : (o.f1 - o.f0 + k - 1) / k ≤ o.f1 - o.f0 := by
        have h4 : (o.f1 - o.f0 + k - 1) / k < o.f1 - o.f0 + 1 := by
          refine Int.ediv_lt_of_lt_mul (by omega) ?_
          have hs : 1 ≤ o.f1 - o.f0 := by omega
          have hp : 0 ≤ (o.f1 - o.f0 - 1) * (k - 1) := Int.mul_nonneg (by omega) (by omega)
          have ex : (o.f1 - o.f0 + 1) * k = (o.f1 - o.f0 - 1) * (k - 1) + (o.f1 - o.f0) + k - 1 + k := by
            generalize o.f1 - o.f0 = s
            rw [Int.sub_mul, Int.mul_sub, Int.add_mul]
            omega
          omega
        omega
      show 0 ≤ (o.f1 - o.f0 + k - 1) / k + cntS k a ∧ (o.f1 - o.f0 + k - 1) / k + cntS k a ≤ m - u
      omega
    · rw [chk_ill hh] at h; cases h
theorem cntS_app (k : Int) : ∀ (a b : List PieceM), cntS k (a ++ b) = cntS k a + cntS k b
  | [], b => by simp [cntS]
  | o :: a, b => by show _ + cntS k (a ++ b) = _ + cntS k a + cntS k b; rw [cntS_app k a b]; omega
theorem splitL_cons (k : Int) (o : PieceM) (os : List PieceM) : splitL k (o :: os) = cutL k o ++ splitL k os := List.flatMap_cons
end Go.Proofs.Ytddkcgngpclgfaa
