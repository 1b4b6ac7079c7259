/-
Contracts of functions of this seat.
-/
import Derived.Test.YtmlpninkilcjaaaRows
import Derived.WalkKit
import Derived.ProofKit
import Derived.OpenShut
import Derived.Test.YtmlpninkilcjaaaFdi
namespace Go.Proofs.Ytmlpninkilcjaaa
open Go.ChangeShapes Go.WideShapes Go.ChangeAt Go.RowKit
set_option linter.unusedVariables false
set_option maxRecDepth 100000
theorem rtIn_min (zs : List Int) (dst : Int) (i : Nat) (hc : rtC zs dst i = true) : ∀ k, i < k → ∃ j, rtIn zs dst (rB zs i) k = some j ∧ rM zs j ≤ rM zs i := by
  intro k
  induction k with
  | zero => intro h; omega
  | succ k ih =>
    intro h
    by_cases hk : rtC zs dst k = true ∧ rB zs k = rB zs i ∧ (∀ j, rtIn zs dst (rB zs i) k = some j → rM zs k < rM zs j)
    · refine ⟨k, rtIn_take zs dst _ k hk.1 hk.2.1 hk.2.2, ?_⟩
      by_cases e : i = k
      · rw [e]; exact Int.le_refl _
      · obtain ⟨j, h1, h2⟩ := ih (by omega)
        have := hk.2.2 j h1
        omega
    · rw [rtIn_skip zs dst _ k hk]
      by_cases e : i = k
      · subst e
        cases ho : rtIn zs dst (rB zs i) i with
        | none => exact absurd ⟨hc, rfl, fun j h => by rw [ho] at h; cases h⟩ hk
        | some j =>
          refine ⟨j, rfl, ?_⟩
          apply Int.not_lt.1
          intro hlt
          exact hk ⟨hc, rfl, fun j' h => by rw [ho] at h; cases h; exact hlt⟩
      · exact ih (by omega)
theorem best_top {zs : List Int} {dst : Int} {n i : Nat} (hi : i < n) (hc : rtC zs dst i = true) : ∃ j, rtBest zs dst n = some j ∧ rB zs i ≤ rB zs j ∧ (rB zs i = rB zs j → rM zs j ≤ rM zs i) := by
  obtain ⟨j0, h1, h2⟩ := rtIn_min zs dst i hc n hi
  cases ho : rtBest zs dst n with
  | none => rw [(rt_same zs dst n).1 ho] at h1; cases h1
  | some j =>
    obtain ⟨a1, a2, a3, a4⟩ := (rt_same zs dst n).2 j ho
    refine ⟨j, rfl, ?_, fun e => ?_⟩
    · apply Int.not_lt.1
      intro hlt
      rw [a2 _ hlt] at h1
      cases h1
    · rw [e, a1] at h1
      cases h1
      exact h2
/-- Whether one of the first has the address. -/
def lgAny (zs : List Int) (dst : Int) : Nat → Bool
  | 0 => false
  | k + 1 => lgAny zs dst k || rtC zs dst k
def rtSame (zs : List Int) (i j : Nat) : Bool := rA zs i == rA zs j && rB zs i == rB zs j && rV zs i == rV zs j && rL zs i == rL zs j && rM zs i == rM zs j
/-- Whether one of the first is this one. -/
def lgIn (zs : List Int) (dst : Int) (j : Nat) : Nat → Bool
  | 0 => false
  | k + 1 => lgIn zs dst j k || (rtC zs dst k && rtSame zs k j)
theorem lgAny_yes {zs : List Int} {dst : Int} {i : Nat} (hc : rtC zs dst i = true) : ∀ {k}, i < k → lgAny zs dst k = true
  | k + 1, h => by
    show (lgAny zs dst k || rtC zs dst k) = true
    by_cases e : i = k
    · rw [← e, hc, Bool.or_true]
    · rw [lgAny_yes hc (by omega), Bool.true_or]
theorem lgIn_yes {zs : List Int} {dst : Int} {j : Nat} (hc : rtC zs dst j = true) : ∀ {k}, j < k → lgIn zs dst j k = true
  | k + 1, h => by
    show (lgIn zs dst j k || (rtC zs dst k && rtSame zs k j)) = true
    by_cases e : j = k
    · subst e
      have : rtSame zs j j = true := by unfold rtSame; simp
      rw [hc, this, Bool.and_true, Bool.or_true]
    · rw [lgIn_yes hc (by omega), Bool.true_or]
theorem best_facts {zs : List Int} {dst : Int} {n j : Nat} (h : rtBest zs dst n = some j) : rtC zs dst j = true ∧ j < n := ⟨((rt_same zs dst n).2 j h).2.2.1, ((rt_same zs dst n).2 j h).2.2.2⟩
theorem best_none_all {zs : List Int} {dst : Int} {n i : Nat} (h : rtBest zs dst n = none) (hi : i < n) : rtC zs dst i = false := by
  cases hc : rtC zs dst i with
  | false => rfl
  | true =>
    obtain ⟨j, h1, _⟩ := best_top hi hc
    rw [h] at h1
    cases h1
/-- A route more, with as many bits and no lesser metric, changes nothing. -/
theorem best_more {zs ms : List Int} {dst : Int} {n j : Nat} (hn : zs.length = n * 5) (h : rtBest zs dst n = some j) (hb : rB (zs ++ ms) n ≤ rB zs j) (hm : rB (zs ++ ms) n = rB zs j → rM zs j ≤ rM (zs ++ ms) n) : rtBest (zs ++ ms) dst (n + 1) = some j ∧ (rA (zs ++ ms) j = rA zs j ∧ rB (zs ++ ms) j = rB zs j ∧ rV (zs ++ ms) j = rV zs j ∧ rL (zs ++ ms) j = rL zs j ∧ rM (zs ++ ms) j = rM zs j) := by
  have key : ∀ i, i < n → ∀ f, f < 5 → (zs ++ ms).getD (i * 5 + f) 0 = zs.getD (i * 5 + f) 0 := fun i hi f hf => by
    rw [List.getD_eq_getElem?_getD, List.getD_eq_getElem?_getD, List.getElem?_append_left (by omega)]
  have kk : ∀ i, i < n → rA (zs ++ ms) i = rA zs i ∧ rB (zs ++ ms) i = rB zs i ∧ rV (zs ++ ms) i = rV zs i ∧ rL (zs ++ ms) i = rL zs i ∧ rM (zs ++ ms) i = rM zs i :=
    fun i hi => ⟨key i hi 0 (by decide), key i hi 1 (by decide), key i hi 2 (by decide), key i hi 3 (by decide), key i hi 4 (by decide)⟩
  have hC : ∀ i, i < n → rtC (zs ++ ms) dst i = rtC zs dst i := fun i hi => by
    obtain ⟨e0, e1, e2, e3, e4⟩ := kk i hi
    unfold rtC
    rw [e0, e1, e2, e3, e4]
  have hS : ∀ k, k ≤ n → rtBest (zs ++ ms) dst k = rtBest zs dst k := by
    intro k
    induction k with
    | zero => intro _; rfl
    | succ k ih =>
      intro hk
      show rtStep (zs ++ ms) dst (rtBest (zs ++ ms) dst k) k = rtStep zs dst (rtBest zs dst k) k
      rw [ih (by omega)]
      unfold rtStep
      rw [hC k (by omega)]
      cases ho : rtBest zs dst k with
      | none => rfl
      | some q =>
        have hq := (best_facts ho).2
        dsimp only
        rw [(kk q (by omega)).2.1, (kk q (by omega)).2.2.2.2, (kk k (by omega)).2.1, (kk k (by omega)).2.2.2.2]
  have hj := (best_facts h).2
  refine ⟨?_, kk j hj⟩
  show rtStep (zs ++ ms) dst (rtBest (zs ++ ms) dst n) n = some j
  rw [hS n (Nat.le_refl _), h]
  unfold rtStep
  split
  · show (if rB (zs ++ ms) j < rB (zs ++ ms) n ∨ (rB (zs ++ ms) n = rB (zs ++ ms) j ∧ rM (zs ++ ms) n < rM (zs ++ ms) j) then some n else some j) = some j
    rw [(kk j hj).2.1, (kk j hj).2.2.2.2, if_neg]
    rintro (h1 | ⟨h1, h2⟩)
    · omega
    · have := hm h1; omega
  · rfl

theorem eqRt (a0 a1 a2 a3 a4 b0 b1 b2 b3 b4 : Int) (w : World) : (Op.equalIn 10000 27 (.agg #[.int .i64 a0, .int .i64 a1, .int .i64 a2, .int .i64 a3, .int .i64 a4]) (.agg #[.int .i64 b0, .int .i64 b1, .int .i64 b2, .int .i64 b3, .int .i64 b4])).run Try.prog w = .ok (a0 == b0 && a1 == b1 && a2 == b2 && a3 == b3 && a4 == b4) w := by
  have u3 := Try.underlying2
  have ag := Try.isAgg2
  have z3 := Try.sizeOf2
  have uP := Try.underlying25
  have aP := Try.isAgg25
  have zP := Try.sizeOf25
  have hS : Try.prog.underlying 27 = some (.struct (Try.prog.fieldsOf 27)) := by kernel_rfl
  rw [show (10000 : Nat) = 9999 + 1 from rfl, run_equalIn_agg w 9999 27 _ _ hS (by kernel_rfl)]
  simp only [Program.fieldsOf, Try.underlying27]
  go_simp
  by_cases h0 : a0 = b0 <;> by_cases h1 : a1 = b1 <;> by_cases h2 : a2 = b2 <;> by_cases h3 : a3 = b3 <;> by_cases h4 : a4 = b4 <;> simp [h0, h1, h2, h3, h4]
theorem sl_one (b off n cap i : Nat) (hi : i + 1 ≤ n) (hc : n ≤ cap) (w : World) : (Instr.slice 30 (.slice (some ⟨b, off, none⟩) n cap) (some (.int .i64 (i : Int))) (some (.int .i64 ((i : Int) + 1))) none).run Try.prog w = .ok (.slice (some ⟨b, off + i * 5, none⟩) 1 (cap - i)) w := by
  have hs : (sizeOf (Try.prog.elem 30)).run Try.prog w = .ok 5 w := Try.sizeOf27 w
  have he := run_slice_lh (P := Try.prog) (w := w) 30 (some ⟨b, off, none⟩) n cap Try.underlying30 .i64 .i64 (i : Int) ((i : Int) + 1) (by omega) (by omega) (by omega)
  rw [he, hs]
  simp [sliced, Result.andThen, Addr.add_lit]
  omega
end Go.Proofs.Ytmlpninkilcjaaa
