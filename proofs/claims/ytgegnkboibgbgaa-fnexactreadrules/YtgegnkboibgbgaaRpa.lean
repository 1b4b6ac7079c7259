/-
Contracts of functions of this seat.
-/
import Derived.Test.YtgegnkboibgbgaaRows
import Derived.WalkKit
import Derived.ProofKit
import Derived.OpenShut
import Derived.Test.YtgegnkboibgbgaaNum
namespace Go.Proofs.Ytgegnkboibgbgaa
open Go.ChangeShapes Go.WideShapes Go.ChangeAt Go.RowKit
set_option linter.unusedVariables false
set_option maxRecDepth 100000
abbrev kVia : List UInt8 := [118, 105, 97]
abbrev kLink : List UInt8 := [108, 105, 110, 107]
abbrev kMetric : List UInt8 := [109, 101, 116, 114, 105, 99]
/-- The end of a route's line. -/
def rpEnd (a b v l m : Int) (r : List (List UInt8)) : Option (Int × Int × Int × Int × Int) := if r.length = 0 ∧ rtOK a b v l m = true then some (a, b, v, l, m) else none
def rpMet (a b v l : Int) (r : List (List UInt8)) : Option (Int × Int × Int × Int × Int) := match keyT kMetric r with
  | some (x, r') => if numF x 7 then rpEnd a b v l (numV x) r' else none
  | none => rpEnd a b v l 0 r
def rpLink (a b v : Int) (r : List (List UInt8)) : Option (Int × Int × Int × Int × Int) := match keyT kLink r with
  | some (x, r') => if numF x 7 then rpMet a b v (numV x) r' else none
  | none => none
def rpVia (a b : Int) (r : List (List UInt8)) : Option (Int × Int × Int × Int × Int) := match keyT kVia r with
  | some (x, r') => if adOK x = true ∧ adX x ≠ 0 then rpLink a b (adX x) r' else none
  | none => rpLink a b 0 r
/-- A route's words. -/
def rtParse : List (List UInt8) → Option (Int × Int × Int × Int × Int)
  | [] => none
  | p :: r => if pfOK p then rpVia (pfA p) (pfB p) r else none
theorem led_big8 (l : List UInt8) (h : l.all dgt = true) (hl : ledN l = false) (h2 : 7 < l.length) : 10000000 ≤ numV l := by
  have hd := List.all_eq_true.1 h
  have := numV_le l h 8 (by omega)
  match l, h2, hl, hd, this with
  | a :: b :: c :: d :: e :: f :: g :: i :: t, _, hl, hd, this =>
    have h1 := dgt_iff.1 (hd a (by simp))
    have h2 := dgt_iff.1 (hd b (by simp))
    have h3 := dgt_iff.1 (hd c (by simp))
    have h5 := dgt_iff.1 (hd d (by simp))
    have h6 := dgt_iff.1 (hd e (by simp))
    have h7 := dgt_iff.1 (hd f (by simp))
    have h8 := dgt_iff.1 (hd g (by simp))
    have h9 := dgt_iff.1 (hd i (by simp))
    have h4 : a.toNat ≠ 48 := fun e => by
      have : a = 48 := UInt8.toNat_inj.1 e
      rw [this] at hl; simp [ledN] at hl
    simp only [List.take_succ_cons, List.take_zero] at this
    have e : numV [a, b, c, d, e, f, g, i] = ((a.toNat : Int) - 48) * 10000000 + ((b.toNat : Int) - 48) * 1000000 + ((c.toNat : Int) - 48) * 100000 + ((d.toNat : Int) - 48) * 10000 + ((e.toNat : Int) - 48) * 1000 + ((f.toNat : Int) - 48) * 100 + ((g.toNat : Int) - 48) * 10 + ((i.toNat : Int) - 48) := by simp [numV]; omega
    omega
theorem num7 (l : List UInt8) (most : Int) (hm : 0 ≤ most ∧ most ≤ 1000000) : (numF l 7 && inB (numV l) 0 most) = numOK l most := by
  unfold numF numOK
  cases e1 : l.all dgt with
  | false => simp
  | true =>
    cases e2 : ledN l with
    | true => simp
    | false =>
      have hb := led_big8 l e1 e2
      have h0 := numV_nn l e1 l.length (Nat.le_refl _)
      rw [List.take_length] at h0
      have hi : inB (numV l) 0 most = decide (numV l ≤ most) := by unfold inB; simp [h0]
      rw [hi]
      by_cases h : l.length ≤ 7
      · rw [decide_eq_true h]; cases l.isEmpty <;> simp
      · rw [decide_eq_false (p := numV l ≤ most) (by have := hb (by omega); omega)]; simp
theorem rtOK_met (a b v l m : Int) : rtOK a b v l m = (rtOK a b v l 0 && inB m 0 1000000) := by
  unfold rtOK
  rw [show inB 0 0 1000000 = true from rfl, Bool.and_true]
theorem rtOK_link (a b v l : Int) : rtOK a b v l 0 = (rtOK a b v 0 0 && inB l 0 7) := by
  unfold rtOK
  rw [show inB 0 0 1000000 = true from rfl, show inB 0 0 7 = true from rfl, Bool.and_true, Bool.and_true, Bool.and_true]
theorem rtOK_via (a b v : Int) : rtOK a b v 0 0 = (prefB a b && (decide (v = 0) || decide (kindA v = 6))) := by
  unfold rtOK
  rw [show inB 0 0 1000000 = true from rfl, show inB 0 0 7 = true from rfl, Bool.and_true, Bool.and_true]
end Go.Proofs.Ytgegnkboibgbgaa
