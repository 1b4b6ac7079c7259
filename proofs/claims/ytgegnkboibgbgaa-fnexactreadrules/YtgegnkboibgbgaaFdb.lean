/-
Contracts of functions of this seat.
-/
import Derived.Test.YtgegnkboibgbgaaRows
import Derived.WalkKit
import Derived.ProofKit
import Derived.OpenShut
import Derived.Test.YtgegnkboibgbgaaWds
import Derived.Lib.TrimUEq
namespace Go.Proofs.Ytgegnkboibgbgaa
open Go.ChangeShapes Go.WideShapes Go.ChangeAt Go.RowKit
set_option linter.unusedVariables false
set_option maxRecDepth 100000


/-- The words of a line, byte by byte: 'now' is the word so far. -/
def blB (c : UInt8) : Bool := c == 32 || c == 9
def fieldsB : List UInt8 → List UInt8 → List (List UInt8)
  | [], now => if now.isEmpty then [] else [now]
  | c :: r, now => if blB c then (if now.isEmpty then fieldsB r [] else now :: fieldsB r []) else fieldsB r (now ++ [c])
theorem fieldsB_skip : ∀ (k : Nat) (xs now : List UInt8), (∀ x ∈ xs.take k, blB x = false) → fieldsB xs now = fieldsB (xs.drop k) (now ++ xs.take k)
  | 0, xs, now, _ => by simp
  | k + 1, [], now, _ => by simp
  | k + 1, c :: r, now, h => by
    have hc : blB c = false := h c (by simp)
    have ih := fieldsB_skip k r (now ++ [c]) (fun x hx => h x (by simp [hx]))
    rw [fieldsB, hc]
    simp only [Bool.false_eq_true, if_false]
    rw [ih]
    simp
theorem decN_facts (n b0 b1 b2 b3 : Nat) (hn : 1 ≤ n) : 1 ≤ (Lib.decodeN n b0 b1 b2 b3).2 ∧ (Lib.decodeN n b0 b1 b2 b3).2 ≤ n ∧ (b0 < 128 → Lib.decodeN n b0 b1 b2 b3 = (b0, 1)) ∧ (128 ≤ b0 → 128 ≤ (Lib.decodeN n b0 b1 b2 b3).1) ∧
    (2 ≤ (Lib.decodeN n b0 b1 b2 b3).2 → 128 ≤ b1) ∧ (3 ≤ (Lib.decodeN n b0 b1 b2 b3).2 → 128 ≤ b2) ∧ (4 ≤ (Lib.decodeN n b0 b1 b2 b3).2 → 128 ≤ b3) ∧ (Lib.decodeN n b0 b1 b2 b3).2 ≤ 4 := by
  unfold Lib.decodeN
  repeat' split
  all_goals refine ⟨?_, ?_, ?_, ?_, ?_, ?_, ?_, ?_⟩
  all_goals first | (intro h; first | rfl | (exfalso; omega) | (simp only at h ⊢; omega) | omega) | (simp only; omega) | omega
theorem bl_small (c : UInt8) (h : 128 ≤ c.toNat) : blB c = false := by
  unfold blB
  cases h1 : (c == 32 || c == 9) with
  | false => rfl
  | true =>
    rcases Bool.or_eq_true_iff.1 h1 with e | e
    · have := eq_of_beq e; subst this; exact absurd h (by decide)
    · have := eq_of_beq e; subst this; exact absurd h (by decide)
theorem bl_rune (c : UInt8) : blR c.toNat = blB c := by
  unfold blR blB
  congr 1
  · rw [Bool.eq_iff_iff, decide_eq_true_iff, beq_iff_eq]
    exact ⟨fun h => UInt8.toNat_inj.1 h, fun h => by rw [h]; rfl⟩
  · rw [Bool.eq_iff_iff, decide_eq_true_iff, beq_iff_eq]
    exact ⟨fun h => UInt8.toNat_inj.1 h, fun h => by rw [h]; rfl⟩
/-- A rune at a place: it is a blank just where its first byte is; no other byte of it is one. -/
theorem rune_at (l : List UInt8) (pos : Nat) (h : pos < l.length) : 1 ≤ (Utf8.decode (bs l) pos).2 ∧ pos + (Utf8.decode (bs l) pos).2 ≤ l.length ∧ blR (Utf8.decode (bs l) pos).1 = blB l[pos] ∧ (blB l[pos] = true → (Utf8.decode (bs l) pos).2 = 1) ∧ (blB l[pos] = false → ∀ x ∈ (l.drop pos).take (Utf8.decode (bs l) pos).2, blB x = false) := by
  have hd := Lib.decode_N (bs l) pos
  have hdl : (bs l).data.toList = l := by simp [bs]
  rw [hdl] at hd
  have e0 : l.getD pos 0 = l[pos] := by simp [List.getD, h]
  rw [e0] at hd
  obtain ⟨h1, h2, h3, h4, h5, h6, h7, h8⟩ := decN_facts (l.length - pos) l[pos].toNat (l.getD (pos + 1) 0).toNat (l.getD (pos + 2) 0).toNat (l.getD (pos + 3) 0).toNat (by omega)
  rw [← hd] at h1 h2 h3 h4 h5 h6 h7 h8
  have hb : blR (Utf8.decode (bs l) pos).1 = blB l[pos] := by
    by_cases hs : l[pos].toNat < 128
    · rw [h3 hs]
      exact bl_rune _
    · rw [bl_small _ (by omega)]
      have := h4 (by omega)
      unfold blR
      rw [decide_eq_false (by omega), decide_eq_false (by omega)]
      rfl
  refine ⟨h1, by omega, hb, fun ht => ?_, fun hf x hx => ?_⟩
  · by_cases hs : l[pos].toNat < 128
    · rw [h3 hs]
    · rw [bl_small _ (by omega)] at ht
      cases ht
  · obtain ⟨j, hj, rfl⟩ := List.mem_iff_getElem.1 hx
    rw [List.length_take, List.length_drop] at hj
    rw [List.getElem_take, List.getElem_drop]
    have hj4 : j < 4 := by omega
    have hjl : pos + j < l.length := by omega
    have eg : ∀ i (hi : pos + i < l.length), l.getD (pos + i) 0 = l[pos + i] := fun i hi => by simp [List.getD, hi]
    match j, hj4 with
    | 0, _ => exact hf
    | 1, _ => exact bl_small _ (by rw [← eg 1 hjl]; exact h5 (by omega))
    | 2, _ => exact bl_small _ (by rw [← eg 2 hjl]; exact h6 (by omega))
    | 3, _ => exact bl_small _ (by rw [← eg 3 hjl]; exact h7 (by omega))
def nowOf (l : List UInt8) (pos : Nat) : Option Nat → List UInt8
  | none => []
  | some a => (l.drop a).take (pos - a)
def extL (l : List UInt8) (x : Nat × Nat) : List UInt8 := (l.drop x.1).take (x.2 - x.1)
theorem nowOf_more (l : List UInt8) (a pos k : Nat) (ha : a ≤ pos) : nowOf l (pos + k) (some a) = nowOf l pos (some a) ++ (l.drop pos).take k := by
  show (l.drop a).take (pos + k - a) = (l.drop a).take (pos - a) ++ _
  rw [show pos + k - a = (pos - a) + k by omega, List.take_add, List.drop_drop, show a + (pos - a) = pos by omega]
theorem nowOf_ne (l : List UInt8) (a pos : Nat) (ha : a < pos) (hp : pos ≤ l.length) : (nowOf l pos (some a)).isEmpty = false := by
  have : (nowOf l pos (some a)).length = pos - a := by
    unfold nowOf
    rw [List.length_take, List.length_drop]
    omega
  cases h : nowOf l pos (some a) with
  | nil => rw [h] at this; simp at this; omega
  | cons x r => rfl
theorem spans_fields (l : List UInt8) : ∀ (f pos : Nat) (st : Option Nat) (acc : List (Nat × Nat)), pos ≤ l.length → l.length - pos ≤ f → (∀ a, st = some a → a < pos) →
    (Lib.closeSpans (bs l) (Lib.spansFromP blR (bs l) f pos st acc)).map (extL l) = acc.map (extL l) ++ fieldsB (l.drop pos) (nowOf l pos st) := by
  intro f
  induction f with
  | zero =>
    intro pos st acc hp hf hst
    have : pos = l.length := by omega
    subst this
    rw [List.drop_length]
    unfold Lib.spansFromP Lib.closeSpans fieldsB
    cases st with
    | none => simp [nowOf]
    | some a =>
      rw [nowOf_ne l a _ (hst a rfl) (Nat.le_refl _)]
      simp [nowOf, extL, bs_size]
  | succ f ih =>
    intro pos st acc hp hf hst
    by_cases h : pos < l.length
    · obtain ⟨h1, h2, h3, h4, h5⟩ := rune_at l pos h
      unfold Lib.spansFromP
      rw [if_pos (by rw [bs_size]; exact h), h3]
      have hd : l.drop pos = l[pos] :: l.drop (pos + 1) := List.drop_eq_getElem_cons h
      cases hb : blB l[pos] with
      | true =>
        rw [h4 hb]
        simp only [if_true]
        cases st with
        | none =>
          simp only
          rw [ih (pos + 1) none acc (by omega) (by omega) (by simp), hd, fieldsB, hb]
          simp [nowOf]
        | some a =>
          simp only
          rw [ih (pos + 1) none _ (by omega) (by omega) (by simp), hd, fieldsB, hb, nowOf_ne l a pos (hst a rfl) hp]
          simp [nowOf, extL]
      | false =>
        simp only [Bool.false_eq_true, if_false]
        have hk := fieldsB_skip (Utf8.decode (bs l) pos).2 (l.drop pos) (nowOf l pos st) (h5 hb)
        rw [List.drop_drop] at hk
        cases st with
        | none =>
          simp only
          rw [ih _ (some pos) acc h2 (by omega) (by intro a ha; cases ha; omega), hk]
          congr 2
          simp [nowOf]
        | some a =>
          simp only
          rw [ih _ (some a) acc h2 (by omega) (by intro b hb'; cases hb'; have := hst a rfl; omega), hk, nowOf_more l a pos _ (Nat.le_of_lt (hst a rfl))]
    · have : pos = l.length := by omega
      subst this
      rw [Lib.spansFromP_end _ _ _ _ _ _ (by rw [bs_size]; omega), List.drop_length]
      unfold Lib.closeSpans fieldsB
      cases st with
      | none => simp [nowOf]
      | some a =>
        rw [nowOf_ne l a _ (hst a rfl) (Nat.le_refl _)]
        simp [nowOf, extL, bs_size]
theorem ext_bs (l : List UInt8) (x : Nat × Nat) : ((bs l).extract x.1 x.2).data.toList = extL l x := by
  rw [bs_extract]
  rfl
theorem wordsL_eq (l : List UInt8) : wordsL l = fieldsB (upTo 35 l) [] := by
  unfold wordsL Lib.goFieldsP Lib.spansOfP
  rw [List.map_map]
  have h := spans_fields (upTo 35 l) (bs (upTo 35 l)).size 0 none [] (Nat.zero_le _) (by rw [bs_size]; omega) (by simp)
  have e : ((fun b : ByteArray => b.data.toList) ∘ fun x : Nat × Nat => (bs (upTo 35 l)).extract x.1 x.2) = extL (upTo 35 l) := funext fun x => ext_bs _ x
  rw [e, h]
  rfl
end Go.Proofs.Ytgegnkboibgbgaa
