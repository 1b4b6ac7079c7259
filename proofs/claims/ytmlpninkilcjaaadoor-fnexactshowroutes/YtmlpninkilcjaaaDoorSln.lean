/-
Contracts of functions of this seat.
-/
import Derived.Test.YtmlpninkilcjaaaDoorRows
import Derived.WalkKit
import Derived.ProofKit
import Derived.OpenShut
import Derived.Test.YtmlpninkilcjaaaDoorRwd
namespace Go.Proofs.YtmlpninkilcjaaaDoor
open Go.ChangeShapes Go.WideShapes Go.ChangeAt Go.RowKit
set_option linter.unusedVariables false
set_option maxRecDepth 100000
/-- A route's words. -/
def rtWords (a b v l m : Int) : List ByteArray := ([showP a b] ++ (if v = 0 then [] else [wVia, showA v])) ++ [wLink, decG l.toNat] ++ (if m = 0 then [] else [wMetric, decG m.toNat])
/-- A route's line, without its newline. -/
def rtLine (a b v l m : Int) : List UInt8 := Lib.join ((rtWords a b v l m).map (·.data.toList)) [32]
theorem rtWords_ne (a b v l m : Int) : rtWords a b v l m ≠ [] := by unfold rtWords; simp
theorem srStep_line (o : ByteArray) (a b v l m : Int) : (srStep o a b v l m).data.toList = o.data.toList ++ rtLine a b v l m ++ [10] := by
  unfold srStep srM srV rtLine rtWords
  by_cases hv : v = 0
  · by_cases hm : m = 0
    · rw [if_pos hv, if_pos hv, if_pos hm, if_pos hm]
      simp [Lib.join, List.intercalate, List.intersperse, ByteArray.data_append, List.append_assoc]
    · rw [if_pos hv, if_pos hv, if_neg hm, if_neg hm]
      simp [Lib.join, List.intercalate, List.intersperse, ByteArray.data_append, List.append_assoc]
  · by_cases hm : m = 0
    · rw [if_neg hv, if_neg hv, if_pos hm, if_pos hm]
      simp [Lib.join, List.intercalate, List.intersperse, ByteArray.data_append, List.append_assoc]
    · rw [if_neg hv, if_neg hv, if_neg hm, if_neg hm]
      simp [Lib.join, List.intercalate, List.intersperse, ByteArray.data_append, List.append_assoc]
theorem size_toList (s : ByteArray) : s.data.toList.length = s.size := by rw [Array.length_toList]; rfl
theorem rtLine_len {a b v l m : Int} (h : rtOK a b v l m = true) : (rtLine a b v l m).length ≤ 65 := by
  obtain ⟨_, _, hl, hm⟩ := rtOK_parts h
  have h1 := showP_size a b
  have h2 := showA_size v
  have h3 := decG_size 0 l.toNat (by omega)
  have h4 := decG_size 6 m.toNat (by have : (10 : Nat) ^ (6 + 1) = 10000000 := rfl; omega)
  have e := congrArg List.length (srStep_line ⟨#[]⟩ a b v l m)
  rw [size_toList] at e
  unfold srStep srM srV at e
  have z0 : (⟨#[]⟩ : ByteArray).size = 0 := rfl
  have z1 : sVia.size = 5 := rfl
  have z2 : sLink.size = 6 := rfl
  have z3 : sMetric.size = 8 := rfl
  have z4 : sNl.size = 1 := rfl
  have z5 : ((⟨#[]⟩ : ByteArray).data.toList ++ rtLine a b v l m ++ [10]).length = (rtLine a b v l m).length + 1 := by simp
  rw [z5] at e
  by_cases hv : v = 0
  · by_cases hm : m = 0
    · rw [if_pos hv, if_pos hm] at e
      simp only [ByteArray.size_append] at e
      omega
    · rw [if_pos hv, if_neg hm] at e
      simp only [ByteArray.size_append] at e
      omega
  · by_cases hm : m = 0
    · rw [if_neg hv, if_pos hm] at e
      simp only [ByteArray.size_append] at e
      omega
    · rw [if_neg hv, if_neg hm] at e
      simp only [ByteArray.size_append] at e
      omega
set_option maxHeartbeats 1000000 in
theorem rwords_walk (a b v l m : Int) (w : World) (h : rtOK a b v l m = true) (ht : Lib.TabBelow Tryd.prog w.heap.size w "internal/strconv.uint64pow10" .u64 Lib.pow10Tab) :
    Calls Tryd.prog 16 #[.agg #[.int .i64 a, .int .i64 b, .int .i64 v, .int .i64 l, .int .i64 m]] w fun e w' => ∃ u, e = .returned u ∧ OwnS w' (w.heap.size + 1) u (rtWords a b v l m) ∧ Below w.heap.size w w' := by
  obtain ⟨hp, hva, hl, hm⟩ := rtOK_parts h
  have TB : ∀ W, BoxV w W #[.int .i64 a, .int .i64 b, .int .i64 v, .int .i64 l, .int .i64 m] 33 → Lib.TabBelow Tryd.prog W.heap.size W "internal/strconv.uint64pow10" .u64 Lib.pow10Tab := fun W hW => tab_later ht hW.1 (by have := hW.2.1; omega)
  have CP := fun W hW => showPI_yes a b W hp (TB W hW)
  have CL := fun W hW => fmtInt_walk l hl.1 (by omega) W (TB W hW).here
  have CM := fun W hW => fmtInt_walk m hm.1 hm.2 W (TB W hW).here
  unfold rtWords
  by_cases hv : v = 0
  · by_cases hmm : m = 0
    · rw [if_pos hv, if_pos hmm, List.append_nil, List.append_nil]
      exact rwords_00 a b v l m w (showP a b) ⟨#[]⟩ _ ⟨#[]⟩ (by simp [hv]) (by simp [hmm]) CP CL
    · rw [if_pos hv, if_neg hmm, List.append_nil]
      exact rwords_01 a b v l m w (showP a b) ⟨#[]⟩ _ _ (by simp [hv]) (by simp [hmm]) CP CL CM
  · have CA := fun W hW => showAI_yes v W (hva hv) (TB W hW)
    by_cases hmm : m = 0
    · rw [if_neg hv, if_pos hmm, List.append_nil]
      exact rwords_10 a b v l m w (showP a b) _ _ ⟨#[]⟩ (by simp [hv]) (by simp [hmm]) CP CA CL
    · rw [if_neg hv, if_neg hmm]
      exact rwords_11 a b v l m w (showP a b) _ _ _ (by simp [hv]) (by simp [hmm]) CP CA CL CM
end Go.Proofs.YtmlpninkilcjaaaDoor
