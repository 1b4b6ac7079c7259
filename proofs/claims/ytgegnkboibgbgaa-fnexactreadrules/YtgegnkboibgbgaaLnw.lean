/-
Contracts of functions of this seat.
-/
import Derived.Test.YtgegnkboibgbgaaRows
import Derived.WalkKit
import Derived.ProofKit
import Derived.OpenShut
import Derived.Test.YtgegnkboibgbgaaNum
namespace Go.Proofs.Ytgegnkboibgbgaa
open Go.ChangeShapes Go.WideShapes Go.ChangeAt Go.RowKit
set_option linter.unusedVariables false
set_option maxRecDepth 100000
/-- What lies in a row of strings' block is no row of rows. -/
theorem own_apart2 {w : World} {B C e1 e2 n1 n2 K1 K2 : Nat} {v1 v2 : Value} {x1 x2 : List Value} (h1 : w.ownsRow B e1 K1 v1 n1 x1) (h2 : w.ownsRow C e2 K2 v2 n2 x2) (he : e1 ≠ e2) {b : Nat} (hb1 : v1.ownBlock = some b) : v2.ownBlock ≠ some b := by
  intro hb2
  rcases h1.2 with ⟨rfl, _⟩ | ⟨g1, c1, u1, rfl, _, hg1, _⟩
  · simp [Value.ownBlock] at hb1
  · rcases h2.2 with ⟨rfl, _⟩ | ⟨g2, c2, u2, rfl, _, hg2, _⟩
    · simp [Value.ownBlock] at hb2
    · simp [Value.ownBlock] at hb1 hb2
      subst hb1 hb2
      rw [hg1] at hg2
      simp at hg2
      exact he hg2.2
theorem row_kept {w w' : World} {B e K n : Nat} {v : Value} {xs : List Value} (h : w.ownsRow B e K v n xs) (hk : ∀ b, v.ownBlock = some b → w'.heap[b]? = w.heap[b]?) : w'.ownsRow B e K v n xs := by
  refine ⟨h.1, ?_⟩
  rcases h.2 with h0 | ⟨g, cap, cur, hv, hB, hg, hrest⟩
  · exact .inl h0
  · exact .inr ⟨g, cap, cur, hv, hB, by rw [hk g (by rw [hv]; rfl)]; exact hg, hrest⟩
theorem row_lt {w : World} {B e K n b : Nat} {v : Value} {xs : List Value} (h : w.ownsRow B e K v n xs) (hb : v.ownBlock = some b) : B ≤ b ∧ b < w.heap.size := by
  rcases h.2 with ⟨rfl, _⟩ | ⟨g, cap, cur, rfl, hB, hg, _⟩
  · simp [Value.ownBlock] at hb
  · simp [Value.ownBlock] at hb
    subst hb
    exact ⟨hB, (Array.getElem?_eq_some_iff.1 hg).1⟩
theorem OwnS.nexts {w w' : World} {B : Nat} {v : Value} {ps : List (List UInt8)} (h : OwnS w B v ps) (hb : Below w.heap.size w w') : OwnS w' B v ps := row_kept h (fun b e => hb.block b (row_lt h e).2)
/-- A row of rows of strings. -/
def WRow (w : World) (B : Nat) (v : Value) (L : List (List (List UInt8))) : Prop := ∃ vs : List Value, w.ownsRow B 35 1 v L.length vs ∧ vs.length = L.length ∧ ∀ (i : Nat) q, L[i]? = some q → ∃ u, vs[i]? = some u ∧ OwnS w B u q
theorem WRow.next {w w' : World} {B : Nat} {v : Value} {L : List (List (List UInt8))} (h : WRow w B v L) (hb : Below w.heap.size w w') : WRow w' B v L := by
  obtain ⟨vs, h1, h2, h3⟩ := h
  exact ⟨vs, row_kept h1 (fun b e => hb.block b (row_lt h1 e).2), h2, fun i q hq => by obtain ⟨u, hu, ho⟩ := h3 i q hq; exact ⟨u, hu, ho.nexts hb⟩⟩
/-- What has grown elsewhere leaves it. -/
theorem WRow.keep {w w' : World} {B : Nat} {v : Value} {L : List (List (List UInt8))} (h : WRow w B v L) {C : Nat} (hb : Below C w w') (hC : ∀ b, (v.ownBlock = some b ∨ ∃ u q, OwnS w B u q ∧ q ∈ L ∧ u.ownBlock = some b) → b < C) : WRow w' B v L := by
  obtain ⟨vs, h1, h2, h3⟩ := h
  refine ⟨vs, row_kept h1 (fun b e => hb.block b (hC b (.inl e))), h2, fun i q hq => ?_⟩
  obtain ⟨u, hu, ho⟩ := h3 i q hq
  exact ⟨u, hu, row_kept ho (fun b e => hb.block b (hC b (.inr ⟨u, q, ho, List.mem_of_getElem? hq, e⟩)))⟩
theorem WRow.app {w w' : World} {B : Nat} {v v' u : Value} {L : List (List (List UInt8))} {q : List (List UInt8)} {vs : List Value} (h1 : w.ownsRow B 35 1 v L.length vs) (h2 : vs.length = L.length) (h3 : ∀ (i : Nat) q, L[i]? = some q → ∃ u, vs[i]? = some u ∧ OwnS w B u q) (hu : OwnS w B u q) (hg : w.grownBy w' v.ownBlock) (ho : w'.ownsRow B 35 1 v' (L.length + 1) (vs ++ [u])) : WRow w' B v' (L ++ [q]) := by
  have hk : ∀ x p, OwnS w B x p → OwnS w' B x p := fun x p hx => row_kept hx (fun b e => hg.block b (row_lt hx e).2 (fun e2 => own_apart2 hx h1 (by decide) e e2.symm))
  refine ⟨vs ++ [u], by rw [List.length_append]; exact ho, by simp [h2], fun i p hp => ?_⟩
  by_cases hi : i < L.length
  · rw [List.getElem?_append_left hi] at hp
    obtain ⟨x, hx, hxo⟩ := h3 i p hp
    exact ⟨x, by rw [List.getElem?_append_left (by omega)]; exact hx, hk x p hxo⟩
  · have hi2 : i < (L ++ [q]).length := (List.getElem?_eq_some_iff.1 hp).1
    have e : i = L.length := by simp at hi2; omega
    subst e
    rw [List.getElem?_append_right (Nat.le_refl _), Nat.sub_self] at hp
    cases hp
    exact ⟨u, by rw [← h2, List.getElem?_append_right (Nat.le_refl _), Nat.sub_self]; rfl, hk u q hu⟩
end Go.Proofs.Ytgegnkboibgbgaa
