/-
Contracts of functions of this seat.
-/
import Derived.Test.YtcnfnimgpiaamaaDoorRows
import Derived.WalkKit
import Derived.ProofKit
import Derived.OpenShut
import Derived.Test.YtcnfnimgpiaamaaDoorSw8
namespace Go.Proofs.YtcnfnimgpiaamaaDoor
open Go.ChangeShapes Go.WideShapes Go.ChangeAt Go.RowKit
set_option linter.unusedVariables false
set_option maxRecDepth 100000
/-- A text's bytes. -/
abbrev tb (b : ByteArray) : List UInt8 := b.data.toList
theorem tb_app (a b : ByteArray) : tb (a ++ b) = tb a ++ tb b := by simp [tb, ByteArray.data_append]
theorem tb_inj {a b : ByteArray} (h : tb a = tb b) : a = b := ByteArray.ext (Array.ext' h)
/-- Words with a blank between each two. -/
def jw (ws : List ByteArray) : List UInt8 := Lib.join (ws.map tb) [32]
theorem jt_snoc (l : List (List UInt8)) (y : List UInt8) : ∀ x : List UInt8, Lib.join ((x :: l) ++ [y]) [32] = Lib.join (x :: l) [32] ++ [32] ++ y := by
  induction l with
  | nil => intro x; simp [Lib.join, List.intercalate, List.intersperse]
  | cons a l ih =>
    intro x
    have e := ih a
    simp only [List.cons_append, Lib.join, List.intercalate, List.intersperse, List.flatten_cons] at e ⊢
    rw [e]
    simp [List.append_assoc]
theorem jw_one (ws : List ByteArray) (a : ByteArray) (h : ws ≠ []) : jw (ws ++ [a]) = jw ws ++ [32] ++ tb a := by
  cases ws with
  | nil => exact absurd rfl h
  | cons w ws =>
    unfold jw
    rw [List.map_append, List.map_cons]
    exact jt_snoc _ _ _
theorem jw_two (ws : List ByteArray) (a b : ByteArray) (h : ws ≠ []) : jw (ws ++ [a, b]) = jw ws ++ [32] ++ tb a ++ [32] ++ tb b := by
  rw [show ws ++ [a, b] = (ws ++ [a]) ++ [b] by simp, jw_one _ _ (by simp), jw_one _ _ h]
theorem shF_tb (x : Int) (o : ByteArray) : ∀ k, tb (shF x o k) = tb o ++ flL x k
  | 0 => by show tb o = _; simp [flL]
  | k + 1 => by
    have ih := shF_tb x o k
    unfold shF flL
    split
    · rw [tb_app, ih, List.append_assoc]; rfl
    · exact ih
theorem flL_nil : ∀ f : Fin 64, (flL (f.val : Int) 6 = []) ↔ f.val = 0 := by decide +kernel
theorem shBF_tb (x : Int) (o : ByteArray) (h0 : 0 ≤ x) (h1 : x ≤ 63) : tb (shF x (shB x o) 6) = tb o ++ tb (flT x) := by
  obtain ⟨n, rfl⟩ := Int.eq_ofNat_of_zero_le h0
  have hf := flL_nil ⟨n, by omega⟩
  simp only at hf
  rw [shF_tb]
  unfold shB flT
  by_cases hn : n = 0
  · rw [if_pos (by omega), if_pos (hf.2 hn), hf.2 hn, tb_app, List.append_nil]
  · rw [if_neg (by omega), if_neg (fun e => hn (hf.1 e))]
theorem shK_tb (z : List Int) (o : ByteArray) (ws : List ByteArray) (h : tb o = jw ws) (hw : ws ≠ []) : ∀ k, tb (shK z o k) = jw (ws ++ wdK z k)
  | 0 => by show tb o = _; rw [h]; simp [wdK]
  | k + 1 => by
    have ih := shK_tb z o ws h hw k
    unfold shK wdK
    rw [← List.append_assoc, jw_two _ _ _ (by simp [hw]), tb_app, tb_app, tb_app, tb_app, ih, tb_app, tb_app]
    simp [tb, List.append_assoc]
/-- The text is the words, joined. -/
theorem shT_words (x0 x1 x2 x3 x4 x5 x6 : Int) (x7 : Bool) (x8 : Int) (x9 : Bool) (n0 : Nat) (z zs : List Int) (h0 : 0 ≤ x4) (h1 : x4 ≤ 63) : shT x0 x1 x2 x3 x4 x5 x6 x7 x8 x9 n0 z zs = ⟨(jw (sgWd x0 x1 x2 x3 x4 x5 x6 x7 x8 x9 n0 z zs)).toArray⟩ := by
  have hA : tb (shC x2 x3 x5 (shF x4 (shB x4 (shA x0 x1)) 6)) = jw (wdA x0 x1 x4 x2 x3 x5) := by
    unfold shC
    rw [tb_app, tb_app, tb_app, tb_app, tb_app, tb_app, shBF_tb _ _ h0 h1]
    unfold shA wdA jw
    simp [Lib.join, List.intercalate, List.intersperse, tb, ByteArray.data_append, List.append_assoc]
  have nA : wdA x0 x1 x4 x2 x3 x5 ≠ [] := by unfold wdA; simp
  have hM : tb (shM x6 (shC x2 x3 x5 (shF x4 (shB x4 (shA x0 x1)) 6))) = jw (wdA x0 x1 x4 x2 x3 x5 ++ wdM x6) := by
    unfold shM wdM
    split
    · rw [List.append_nil]; exact hA
    · rw [jw_two _ _ _ nA, tb_app, tb_app, hA]; simp [tb, List.append_assoc]
  have nM : wdA x0 x1 x4 x2 x3 x5 ++ wdM x6 ≠ [] := by simp [nA]
  have hS : tb (shS x7 x8 (shM x6 (shC x2 x3 x5 (shF x4 (shB x4 (shA x0 x1)) 6)))) = jw ((wdA x0 x1 x4 x2 x3 x5 ++ wdM x6) ++ wdS x7 x8) := by
    unfold shS wdS
    split
    · rw [jw_two _ _ _ nM, tb_app, tb_app, hM]; simp [tb, List.append_assoc]
    · rw [List.append_nil]; exact hM
  have nS : (wdA x0 x1 x4 x2 x3 x5 ++ wdM x6) ++ wdS x7 x8 ≠ [] := by simp [nA]
  have hO : tb (shO x9 (shS x7 x8 (shM x6 (shC x2 x3 x5 (shF x4 (shB x4 (shA x0 x1)) 6))))) = jw (((wdA x0 x1 x4 x2 x3 x5 ++ wdM x6) ++ wdS x7 x8) ++ wdO x9) := by
    unfold shO wdO
    split
    · rw [jw_one _ _ nS, tb_app, hS]; simp [tb, List.append_assoc]
    · rw [List.append_nil]; exact hS
  have nO : ((wdA x0 x1 x4 x2 x3 x5 ++ wdM x6) ++ wdS x7 x8) ++ wdO x9 ≠ [] := by simp [nA]
  have hK := shK_tb z _ _ hO nO n0
  have nK : (((wdA x0 x1 x4 x2 x3 x5 ++ wdM x6) ++ wdS x7 x8) ++ wdO x9) ++ wdK z n0 ≠ [] := by simp [nA]
  apply tb_inj
  show tb (shT x0 x1 x2 x3 x4 x5 x6 x7 x8 x9 n0 z zs) = (jw (sgWd x0 x1 x2 x3 x4 x5 x6 x7 x8 x9 n0 z zs)).toArray.toList
  rw [List.toList_toArray]
  unfold shT sgWd shD wdD
  split
  · rw [List.append_nil]; exact hK
  · rw [jw_two _ _ _ nK, tb_app, tb_app, hK]; simp [tb, List.append_assoc]
end Go.Proofs.YtcnfnimgpiaamaaDoor
