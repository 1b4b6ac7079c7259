/-
Contracts of functions of this seat.
-/
import Derived.Test.YthcmgnhfgplajaaDoorRows
import Derived.WalkKit
import Derived.ProofKit
import Derived.OpenShut
import Derived.Test.YthcmgnhfgplajaaDoorSge
namespace Go.Proofs.YthcmgnhfgplajaaDoor
open Go.ChangeShapes Go.WideShapes Go.ChangeAt Go.RowKit
set_option linter.unusedVariables false
set_option maxRecDepth 100000
def sgC (x0 x1 x2 x3 x4 x5 x6 : Int) (x7 : Bool) (x8 : Int) (x9 : Bool) (z z1 : List Int) (n0 : Nat) (s d : Int) : Int := if sgV x0 x1 x2 x3 x4 x5 x6 x7 x8 n0 z s d then (if 65515 < 20 + (segO x6 x7 x8 x9 n0 z).length + z1.length then 7 else 0) else 1
def sgL (x0 x1 x2 x3 x4 x5 x6 : Int) (x7 : Bool) (x8 : Int) (x9 : Bool) (z z1 : List Int) (n0 : Nat) (s d : Int) : List Int := if sgC x0 x1 x2 x3 x4 x5 x6 x7 x8 x9 z z1 n0 s d = 0 then sgW x0 x1 x2 x3 x4 x5 (segO x6 x7 x8 x9 n0 z) z1 s d else []
theorem sgOK_parts {x0 x1 x2 x3 x4 x5 x6 : Int} {x7 : Bool} {x8 : Int} {n0 : Nat} {z : List Int} (h : sgOK x0 x1 x2 x3 x4 x5 x6 x7 x8 n0 z = true) : (0 ≤ x0 ∧ x0 ≤ 65535) ∧ (0 ≤ x1 ∧ x1 ≤ 65535) ∧ (0 ≤ x2 ∧ x2 ≤ 4294967295) ∧ (0 ≤ x3 ∧ x3 ≤ 4294967295) ∧ (0 ≤ x4 ∧ x4 ≤ 63) ∧ (0 ≤ x5 ∧ x5 ≤ 65535) ∧ (0 ≤ x6 ∧ x6 ≤ 65535) ∧ (0 ≤ x8 ∧ x8 ≤ 14) ∧ n0 ≤ 3 ∧ sgS z = true := by
  unfold sgOK sgH at h
  simp only [Bool.and_eq_true, decide_eq_true_eq, inB_iff, adrB_iff] at h
  obtain ⟨⟨⟨⟨⟨⟨⟨⟨⟨⟨a, b⟩, c⟩, d⟩, e⟩, f⟩, g⟩, i⟩, _⟩, k⟩, l⟩ := h
  exact ⟨a, b, c, d, e, f, g, i, k, l⟩
theorem segO_len (m : Int) (hs : Bool) (sc : Int) (so : Bool) (n : Nat) (z : List Int) (h : z.length = n * 2) (h3 : n ≤ 3) : (segO m hs sc so n z).length ≤ 60 := by
  have h1 : (sgO1 m).length ≤ 4 := by unfold sgO1; split <;> simp [putL_len]
  have h2 : (sgO2 hs sc).length ≤ 4 := by unfold sgO2; split <;> simp
  have h3' : (sgO3 so).length ≤ 4 := by unfold sgO3; split <;> simp
  have h4 : (sgO4 n).length ≤ 4 := by unfold sgO4; split <;> simp
  have h5 := sgO5_len z
  unfold segO
  simp only [List.length_append]
  omega
theorem specEncSeg (x0 x1 x2 x3 x4 x5 x6 : Int) (x7 : Bool) (x8 : Int) (x9 : Bool) (z z1 : List Int) (s d : Int) (Pre : World → Prop) (n0 : Nat) (hz : z.length = n0 * 2) : EncodeSegmentP 19 Pre x0 x1 x2 x3 x4 x5 x6 x7 x8 x9 z z1 s d (sgL x0 x1 x2 x3 x4 x5 x6 x7 x8 x9 z z1 n0 s d) (sgC x0 x1 x2 x3 x4 x5 x6 x7 x8 x9 z z1 n0 s d) := by
  intro a0 m0' c0 a1 n1 c1 W h0 ha _ m0 h1 ha1 _ m1 _
  have e0 : m0' = n0 := by omega
  subst e0
  cases hv : sgV x0 x1 x2 x3 x4 x5 x6 x7 x8 m0' z s d with
  | false =>
    have eC : sgC x0 x1 x2 x3 x4 x5 x6 x7 x8 x9 z z1 m0' s d = 1 := by unfold sgC; rw [hv]; rfl
    have eL : sgL x0 x1 x2 x3 x4 x5 x6 x7 x8 x9 z z1 m0' s d = [] := by unfold sgL; rw [eC]; rfl
    rw [eC, eL]
    refine (specEncS_form x0 x1 x2 x3 x4 x5 x6 x7 x8 x9 a0 m0' c0 a1 n1 c1 s d z W hz ha m0 hv).mono ?_
    rintro e w' ⟨rfl, hb⟩
    exact ⟨_, rfl, ⟨World.ownsRow_nil _ _ _ _, by simp⟩, hb⟩
  | true =>
    have hok : sgOK x0 x1 x2 x3 x4 x5 x6 x7 x8 m0' z = true := by unfold sgV at hv; simp only [Bool.and_eq_true] at hv; exact hv.1.1
    obtain ⟨p0, p1, p2, p3, p4, p5, p6, p8, p3n, pS⟩ := sgOK_parts hok
    have hzb : ∀ q, q < z.length → 0 ≤ z.getD q 0 := fun q hq => (adrB_iff.1 (sgS_at pS q hq)).1
    have hOl := segO_len x6 x7 x8 x9 m0' z hz p3n
    by_cases hs : 65515 < 20 + (segO x6 x7 x8 x9 m0' z).length + n1
    · have eC : sgC x0 x1 x2 x3 x4 x5 x6 x7 x8 x9 z z1 m0' s d = 7 := by unfold sgC; rw [hv, if_pos rfl, h1, if_pos hs]
      have eL : sgL x0 x1 x2 x3 x4 x5 x6 x7 x8 x9 z z1 m0' s d = [] := by unfold sgL; rw [eC]; rfl
      rw [eC, eL]
      refine (specEncS_size x0 x1 x2 x3 x4 x5 x6 x7 x8 x9 a0 m0' c0 a1 n1 c1 s d z z1 W hz ha m0 h1 ha1 m1 hv p0.1 p1.1 p2.1 p3.1 p4.1 p4.2 p5.1 p6.1 p8.1 p8.2 p3n hzb _ rfl hOl hs).mono ?_
      rintro e w' ⟨rfl, hb⟩
      exact ⟨_, rfl, ⟨World.ownsRow_nil _ _ _ _, by simp⟩, hb⟩
    · have eC : sgC x0 x1 x2 x3 x4 x5 x6 x7 x8 x9 z z1 m0' s d = 0 := by unfold sgC; rw [hv, if_pos rfl, h1, if_neg hs]
      have eL : sgL x0 x1 x2 x3 x4 x5 x6 x7 x8 x9 z z1 m0' s d = sgW x0 x1 x2 x3 x4 x5 (segO x6 x7 x8 x9 m0' z) z1 s d := by unfold sgL; rw [eC, if_pos rfl]
      rw [eC, eL]
      exact specEncS_ok x0 x1 x2 x3 x4 x5 x6 x7 x8 x9 a0 m0' c0 a1 n1 c1 s d z z1 W hz ha m0 h1 ha1 m1 hv p0.1 p1.1 p2.1 p3.1 p4.1 p4.2 p5.1 p6.1 p8.1 p8.2 p3n hzb _ rfl hOl (by omega)
end Go.Proofs.YthcmgnhfgplajaaDoor
