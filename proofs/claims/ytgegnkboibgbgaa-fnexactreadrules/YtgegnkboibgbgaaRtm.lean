/-
Contracts of functions of this seat.
-/
import Derived.Test.YtgegnkboibgbgaaRows
import Derived.WalkKit
import Derived.ProofKit
import Derived.OpenShut
import Derived.Test.YtgegnkboibgbgaaRt0
import Derived.Test.YtgegnkboibgbgaaAkd2
namespace Go.Proofs.Ytgegnkboibgbgaa
open Go.ChangeShapes Go.WideShapes Go.ChangeAt Go.RowKit
set_option linter.unusedVariables false
set_option maxRecDepth 100000
def inB (x l h : Int) : Bool := decide (l ≤ x ∧ x ≤ h)
theorem inB_iff {x l h : Int} : inB x l h = true ↔ l ≤ x ∧ x ≤ h := by unfold inB; simp
theorem In_walk (n l h : Int) (w : World) :
    Calls Try.prog 53 #[.int .i64 n, .int .i64 l, .int .i64 h] w fun e w' => e = .returned (.bool (inB n l h)) ∧ w' = w := by
  by_cases hh : l ≤ n ∧ n ≤ h
  · rw [inB_iff.2 hh]; exact In_yes n l h w hh
  · rw [show inB n l h = false by unfold inB; exact decide_eq_false hh]; exact In_no n l h w hh

def rA (zs : List Int) (i : Nat) : Int := zs.getD (i * 5) 0
def rB (zs : List Int) (i : Nat) : Int := zs.getD (i * 5 + 1) 0
def rV (zs : List Int) (i : Nat) : Int := zs.getD (i * 5 + 2) 0
def rL (zs : List Int) (i : Nat) : Int := zs.getD (i * 5 + 3) 0
def rM (zs : List Int) (i : Nat) : Int := zs.getD (i * 5 + 4) 0
def kindA (v : Int) : Int := if adrB v then kind v else 0
/-- A valid route. -/
def rtOK (a b v l m : Int) : Bool := prefB a b && (decide (v = 0) || decide (kindA v = 6)) && inB l 0 7 && inB m 0 1000000
/-- A valid route that has the address. -/
def rtC (zs : List Int) (dst : Int) (i : Nat) : Bool := rtOK (rA zs i) (rB zs i) (rV zs i) (rL zs i) (rM zs i) && hasB (rA zs i) (rB zs i) dst
/-- One pass: the most bits, then the least metric, then the first. -/
def rtStep (zs : List Int) (dst : Int) (o : Option Nat) (i : Nat) : Option Nat :=
  if rtC zs dst i then (match o with | none => some i | some j => if rB zs j < rB zs i ∨ (rB zs i = rB zs j ∧ rM zs i < rM zs j) then some i else some j) else o
def rtBest (zs : List Int) (dst : Int) : Nat → Option Nat
  | 0 => none
  | k + 1 => rtStep zs dst (rtBest zs dst k) k
/-- A pass over the routes of so many bits. -/
def rtInS (zs : List Int) (dst b : Int) (o : Option Nat) (i : Nat) : Option Nat :=
  if rtC zs dst i = true ∧ rB zs i = b ∧ (∀ j, o = some j → rM zs i < rM zs j) then some i else o
def rtIn (zs : List Int) (dst b : Int) : Nat → Option Nat
  | 0 => none
  | k + 1 => rtInS zs dst b (rtIn zs dst b k) k
theorem rt_same (zs : List Int) (dst : Int) : ∀ k, (rtBest zs dst k = none → ∀ b, rtIn zs dst b k = none) ∧ (∀ j, rtBest zs dst k = some j → rtIn zs dst (rB zs j) k = some j ∧ (∀ b, rB zs j < b → rtIn zs dst b k = none) ∧ rtC zs dst j = true ∧ j < k)
  | 0 => ⟨fun _ _ => rfl, fun _ h => (by cases h)⟩
  | k + 1 => by
    obtain ⟨h1, h2⟩ := rt_same zs dst k
    show (rtStep zs dst (rtBest zs dst k) k = none → ∀ b, rtInS zs dst b (rtIn zs dst b k) k = none) ∧ (∀ j, rtStep zs dst (rtBest zs dst k) k = some j → rtInS zs dst (rB zs j) (rtIn zs dst (rB zs j) k) k = some j ∧ (∀ b, rB zs j < b → rtInS zs dst b (rtIn zs dst b k) k = none) ∧ rtC zs dst j = true ∧ j < k + 1)
    cases hc : rtC zs dst k with
    | false =>
      have e1 : ∀ o, rtStep zs dst o k = o := fun o => by unfold rtStep; rw [hc]; rfl
      have e2 : ∀ b o, rtInS zs dst b o k = o := fun b o => by unfold rtInS; rw [if_neg (by rw [hc]; simp)]
      rw [e1]
      refine ⟨fun h b => by rw [e2]; exact h1 h b, fun j h => ?_⟩
      obtain ⟨a1, a2, a3, a4⟩ := h2 j h
      exact ⟨by rw [e2]; exact a1, fun b hb => by rw [e2]; exact a2 b hb, a3, by omega⟩
    | true =>
      cases ho : rtBest zs dst k with
      | none =>
        have e1 : rtStep zs dst none k = some k := by unfold rtStep; rw [hc]; rfl
        rw [e1]
        refine ⟨fun h => (by cases h), fun j h => ?_⟩
        cases h
        refine ⟨?_, fun b hb => ?_, hc, by omega⟩
        · rw [h1 ho]; unfold rtInS; rw [if_pos ⟨hc, rfl, fun j h => (by cases h)⟩]
        · rw [h1 ho]; unfold rtInS; rw [if_neg (by rintro ⟨_, h, _⟩; omega)]
      | some i =>
        obtain ⟨a1, a2, a3, a4⟩ := h2 i ho
        by_cases hb : rB zs i < rB zs k ∨ (rB zs k = rB zs i ∧ rM zs k < rM zs i)
        · have e1 : rtStep zs dst (some i) k = some k := by unfold rtStep; rw [hc, if_pos rfl]; exact if_pos hb
          rw [e1]
          refine ⟨fun h => (by cases h), fun j h => ?_⟩
          cases h
          refine ⟨?_, fun b hb2 => ?_, hc, by omega⟩
          · rcases hb with hb | ⟨hb, hm⟩
            · rw [a2 _ hb]; unfold rtInS; rw [if_pos ⟨hc, rfl, fun j h => (by cases h)⟩]
            · rw [hb, a1]; unfold rtInS; rw [if_pos ⟨hc, hb, fun j h => (by cases h; exact hm)⟩]
          · rw [a2 b (by rcases hb with hb | ⟨hb, _⟩ <;> omega)]; unfold rtInS; rw [if_neg (by rintro ⟨_, h, _⟩; omega)]
        · have e1 : rtStep zs dst (some i) k = some i := by unfold rtStep; rw [hc, if_pos rfl]; exact if_neg hb
          rw [e1]
          refine ⟨fun h => (by cases h), fun j h => ?_⟩
          cases h
          refine ⟨?_, fun b hb2 => ?_, a3, by omega⟩
          · rw [a1]; unfold rtInS; rw [if_neg (by rintro ⟨_, h, hm⟩; exact hb (.inr ⟨h, hm i rfl⟩))]
          · rw [a2 b hb2]; unfold rtInS; rw [if_neg (by rintro ⟨_, h, _⟩; exact hb (.inl (by omega)))]
theorem rtC_bits {zs : List Int} {dst : Int} {i : Nat} (h : rtC zs dst i = true) : 0 ≤ rB zs i ∧ rB zs i ≤ 32 := by
  unfold rtC rtOK at h
  simp only [Bool.and_eq_true] at h
  have := (prefB_iff.1 h.1.1.1.1)
  exact ⟨this.1, this.2.1⟩
/-- What FindRoute answers. -/
def frI (zs : List Int) (dst : Int) (n : Nat) (f : Nat → Int) : Int := match rtBest zs dst n with | none => 0 | some j => f j
def oI (o : Option Nat) (f : Nat → Int) : Int := match o with | none => 0 | some j => f j
theorem rtIn_big (zs : List Int) (dst b : Int) (h : 32 < b) : ∀ k, rtIn zs dst b k = none
  | 0 => rfl
  | k + 1 => by
    show rtInS zs dst b (rtIn zs dst b k) k = none
    rw [rtIn_big zs dst b h k]
    unfold rtInS
    rw [if_neg (by rintro ⟨h1, h2, _⟩; have := rtC_bits h1; omega)]
theorem rt_end (zs : List Int) (dst : Int) (n : Nat) (h : ∀ b, (-1 : Int) < b → rtIn zs dst b n = none) : rtBest zs dst n = none := by
  cases ho : rtBest zs dst n with
  | none => rfl
  | some j =>
    obtain ⟨a1, _, a3, _⟩ := (rt_same zs dst n).2 j ho
    rw [h _ (by have := rtC_bits a3; omega)] at a1
    cases a1
theorem rt_hit (zs : List Int) (dst b : Int) (n j : Nat) (h : ∀ c, b < c → rtIn zs dst c n = none) (hj : rtIn zs dst b n = some j) : rtBest zs dst n = some j := by
  cases ho : rtBest zs dst n with
  | none => rw [(rt_same zs dst n).1 ho b] at hj; cases hj
  | some i =>
    obtain ⟨a1, a2, _, _⟩ := (rt_same zs dst n).2 i ho
    by_cases h1 : b < rB zs i
    · rw [h _ h1] at a1; cases a1
    by_cases h2 : rB zs i < b
    · rw [a2 _ h2] at hj; cases hj
    have e : rB zs i = b := by omega
    rw [e, hj] at a1
    exact a1.symm
theorem rtIn_take (zs : List Int) (dst b : Int) (k : Nat) (h1 : rtC zs dst k = true) (h2 : rB zs k = b) (h3 : ∀ j, rtIn zs dst b k = some j → rM zs k < rM zs j) : rtIn zs dst b (k + 1) = some k := by
  show rtInS zs dst b (rtIn zs dst b k) k = some k
  unfold rtInS
  rw [if_pos ⟨h1, h2, h3⟩]
theorem rtIn_skip (zs : List Int) (dst b : Int) (k : Nat) (h : ¬ (rtC zs dst k = true ∧ rB zs k = b ∧ (∀ j, rtIn zs dst b k = some j → rM zs k < rM zs j))) : rtIn zs dst b (k + 1) = rtIn zs dst b k := by
  show rtInS zs dst b (rtIn zs dst b k) k = _
  unfold rtInS
  rw [if_neg h]
end Go.Proofs.Ytgegnkboibgbgaa
