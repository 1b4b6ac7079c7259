/-
Contracts of functions of this seat.
-/
import Derived.Test.YtmlpninkilcjaaaRows
import Derived.WalkKit
import Derived.ProofKit
import Derived.OpenShut
import Derived.Test.YtmlpninkilcjaaaRch
import Derived.Test.YtmlpninkilcjaaaVlr
namespace Go.Proofs.Ytmlpninkilcjaaa
open Go.ChangeShapes Go.WideShapes Go.ChangeAt Go.RowKit
set_option linter.unusedVariables false
set_option maxRecDepth 100000
theorem Hung.none_at {G : Gr} {root n : Nat} {f : Nat → Nat → Option Nat} {r : Rec} (hF : Hung G root f) (hG : TrOk G root) (hn : G n = some r) (hh : r.h = none) : f r.a r.b = none := by
  cases e : f r.a r.b with
  | none => rfl
  | some j =>
    exfalso
    obtain ⟨i, m, rm, hb, g1, g2, g3, g4, g5⟩ := hF.has r.a r.b j (hG.val _ _ hn) e
    obtain ⟨i2, g6⟩ := hG.all _ _ hn
    have := On.uniq hG g1 g6 g2 hn g4
    subst this
    rw [hn] at g2
    cases g2
    rw [hh] at g5
    cases g5
/-- What hangs on a prefix, one more come. -/
def hungF (M : Nat → Int) (f : Nat → Nat → Option Nat) (a b j : Nat) : Nat → Nat → Option Nat := match f a b with
  | none => upF f a b j
  | some i => if M j < M i then upF f a b j else f
/-- The tree of no routes. -/
def zeroG (root : Nat) : Gr := fun n => if n = root then some ⟨0, 0, none, none, none⟩ else none
theorem zero_ok (root : Nat) : TrOk (zeroG root) root := by
  have h1 : zeroG root root = some ⟨0, 0, none, none, none⟩ := if_pos rfl
  have h2 : ∀ n r, zeroG root n = some r → n = root ∧ r = ⟨0, 0, none, none, none⟩ := by
    intro n r h
    unfold zeroG at h
    split at h
    · rename_i e; cases h; exact ⟨e, rfl⟩
    · cases h
  refine ⟨⟨_, h1, rfl, rfl⟩, ?_, ?_, ?_⟩
  · intro n r h
    obtain ⟨rfl, rfl⟩ := h2 n r h
    exact ⟨by decide, by decide, by decide⟩
  · intro n r h k hk c hc
    obtain ⟨rfl, rfl⟩ := h2 n r h
    unfold Rec.sd at hc
    split at hc <;> cases hc
  · intro n r h
    obtain ⟨rfl, rfl⟩ := h2 n r h
    exact ⟨0, .base⟩
theorem zero_hung (root : Nat) : Hung (zeroG root) root (fun _ _ => none) := by
  refine ⟨fun a b j _ h => (by cases h), fun n r hb j h hh => ?_⟩
  unfold zeroG at h
  split at h
  · cases h; cases hh
  · cases h
/-- Nothing has hung on an address's way so far; or what did last. -/
structure Seen (G : Gr) (root x i : Nat) (o : Option Nat) : Prop where
  no : o = none → ∀ k m r, k < i → On G root x k m → G m = some r → r.h = none
  yes : ∀ j, o = some j → ∃ k m r hb, k < i ∧ On G root x k m ∧ G m = some r ∧ topB x r.b = topB r.a r.b ∧ r.h = some (hb, j) ∧ ∀ k' m' r', k < k' → k' < i → On G root x k' m' → G m' = some r' → r'.h = none
theorem Seen.start (G : Gr) (root x : Nat) : Seen G root x 0 none :=
  ⟨fun _ k m r h => absurd h (by omega), fun j h => (by cases h)⟩
/-- What has been found behind a node. -/
def seenO (o : Option Nat) (h : Option (Nat × Nat)) : Option Nat := match h with | none => o | some (_, j) => some j
theorem Seen.step {G : Gr} {root x i n : Nat} {o : Option Nat} {r : Rec} (h : Seen G root x i o) (ho : On G root x i n) (hr : G n = some r) (ht : topB x r.b = topB r.a r.b) : Seen G root x (i + 1) (seenO o r.h) := by
  refine ⟨fun he k m rm hk hm hg => ?_, fun j he => ?_⟩
  · have h0 : r.h = none := by
      cases e : r.h with
      | none => rfl
      | some p => rw [e] at he; cases he
    rw [h0] at he
    by_cases e : k = i
    · subst e
      have := On.det hm ho
      subst this
      rw [hr] at hg
      cases hg
      exact h0
    · exact h.no he k m rm (by omega) hm hg
  · cases e : r.h with
    | none =>
      rw [e] at he
      obtain ⟨k, m, rm, hb, g1, g2, g3, g4, g5, g6⟩ := h.yes j he
      refine ⟨k, m, rm, hb, by omega, g2, g3, g4, g5, fun k' m' r' h1 h2 h3 h4 => ?_⟩
      by_cases e2 : k' = i
      · subst e2
        have := On.det h3 ho
        subst this
        rw [hr] at h4
        cases h4
        exact e
      · exact g6 k' m' r' h1 (by omega) h3 h4
    | some p =>
      obtain ⟨hb, j'⟩ := p
      rw [e] at he
      cases he
      exact ⟨i, n, r, hb, by omega, ho, hr, ht, e, fun k' m' r' h1 h2 => absurd h2 (by omega)⟩
/-- The way has no more nodes that have the address. -/
def Over (G : Gr) (root x i : Nat) : Prop := ∀ k m r, On G root x k m → G m = some r → topB x r.b = topB r.a r.b → k < i
theorem Over.out {G : Gr} {root x i n : Nat} {r : Rec} (ho : On G root x i n) (hr : G n = some r) (ht : topB x r.b ≠ topB r.a r.b) : Over G root x i := by
  intro k m rm hm hg he
  rcases Nat.lt_trichotomy k i with h | h | h
  · exact h
  · subst h
    have := On.det hm ho
    subst this
    rw [hr] at hg
    cases hg
    exact absurd he ht
  · obtain ⟨j, rfl⟩ : ∃ j, k = i + j + 1 := ⟨k - i - 1, by omega⟩
    obtain ⟨m', r', c, g1, g2, g3, _⟩ := On.back hm
    have := On.det g1 ho
    subst this
    rw [hr] at g2
    cases g2
    exact absurd g3 ht
theorem Over.leaf {G : Gr} {root x i n : Nat} {r : Rec} (ho : On G root x i n) (hr : G n = some r) (hc : r.sd (bitB x r.b) = none) : Over G root x (i + 1) := by
  intro k m rm hm hg he
  apply Nat.lt_of_not_le
  intro hle
  obtain ⟨j, rfl⟩ : ∃ j, k = i + j + 1 := ⟨k - i - 1, by omega⟩
  obtain ⟨m', r', c, g1, g2, g3, g4, _⟩ := On.back hm
  have := On.det g1 ho
  subst this
  rw [hr] at g2
  cases g2
  rw [hc] at g4
  cases g4
theorem msk_vP (x b : Nat) (hx : x < 4294967296) (hb : b ≤ 32) : vP (x - x % 2 ^ (32 - b)) b ∧ topB (x - x % 2 ^ (32 - b)) b = topB x b := by
  have h := Nat.div_add_mod x (2 ^ (32 - b))
  have hp : 0 < 2 ^ (32 - b) := Nat.two_pow_pos _
  have e : x - x % 2 ^ (32 - b) = 2 ^ (32 - b) * (x / 2 ^ (32 - b)) := by omega
  refine ⟨⟨hb, by omega, ?_⟩, ?_⟩
  · rw [e]; exact Nat.mul_mod_right _ _
  · unfold topB; rw [e, Nat.mul_div_cancel_left _ hp]
/-- Where the way ends: what was found last is what hangs on the longest prefix. -/
theorem Seen.best {G : Gr} {root x i : Nat} {o : Option Nat} {f : Nat → Nat → Option Nat} (hG : TrOk G root) (hF : Hung G root f) (h : Seen G root x i o) (hv : Over G root x i) (hx : x < 4294967296) :
    (o = none → ∀ b, b ≤ 32 → f (x - x % 2 ^ (32 - b)) b = none) ∧ (∀ j, o = some j → ∃ b, b ≤ 32 ∧ f (x - x % 2 ^ (32 - b)) b = some j ∧ ∀ b', b < b' → b' ≤ 32 → f (x - x % 2 ^ (32 - b')) b' = none) := by
  have key : ∀ b j, b ≤ 32 → f (x - x % 2 ^ (32 - b)) b = some j → ∃ k m r hb, k < i ∧ On G root x k m ∧ G m = some r ∧ r.b = b ∧ r.h = some (hb, j) := by
    intro b j hb hf
    obtain ⟨h1, h2⟩ := msk_vP x b hx hb
    obtain ⟨k, m, r, hb', g1, g2, g3, g4, g5⟩ := hF.has _ b j h1 hf
    have g6 : On G root x k m := On.swap hG g1 g2 (by rw [g4]; exact h2)
    refine ⟨k, m, r, hb', hv k m r g6 g2 ?_, g6, g2, g4, g5⟩
    rw [g3, g4]
    exact h2.symm
  refine ⟨fun ho b hb => ?_, fun j ho => ?_⟩
  · cases e : f (x - x % 2 ^ (32 - b)) b with
    | none => rfl
    | some j =>
      obtain ⟨k, m, r, hb', g1, g2, g3, g4, g5⟩ := key b j hb e
      rw [h.no ho k m r g1 g2 g3] at g5
      cases g5
  · obtain ⟨k, m, r, hb, g1, g2, g3, g4, g5, g6⟩ := h.yes j ho
    have hvr := hG.val _ _ g3
    obtain ⟨h1, h2⟩ := msk_vP x r.b hx hvr.1
    have ea : x - x % 2 ^ (32 - r.b) = r.a := vP_eq h1 hvr (h2.trans g4)
    refine ⟨r.b, hvr.1, by rw [ea]; exact hF.is _ _ _ _ g3 g5, fun b' hb' hb2 => ?_⟩
    cases e : f (x - x % 2 ^ (32 - b')) b' with
    | none => rfl
    | some j' =>
      exfalso
      obtain ⟨k', m', r', hb'', q1, q2, q3, q4, q5⟩ := key b' j' hb2 e
      have hk : k < k' := by
        rcases Nat.lt_trichotomy k k' with hk | hk | hk
        · exact hk
        · subst hk
          have := On.det g2 q2
          subst this
          rw [g3] at q3
          cases q3
          omega
        · obtain ⟨d, rfl⟩ : ∃ d, k = k' + d + 1 := ⟨k - k' - 1, by omega⟩
          have := On.inc hG q2 g2 q3 g3
          omega
      rw [g6 k' m' r' hk q1 q2 q3] at q5
      cases q5
end Go.Proofs.Ytmlpninkilcjaaa
