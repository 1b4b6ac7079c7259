/-
Contracts of functions of this seat.
-/
import Derived.Test.YtgegnkboibgbgaaRows
import Derived.WalkKit
import Derived.ProofKit
import Derived.OpenShut
import Derived.Test.YtgegnkboibgbgaaRds
namespace Go.Proofs.Ytgegnkboibgbgaa
open Go.ChangeShapes Go.WideShapes Go.ChangeAt Go.RowKit
set_option linter.unusedVariables false
set_option maxRecDepth 100000
/-- A text's lines that have words, with their numbers. -/
def NL : List (List (List UInt8)) → Nat → List (Int × List (List UInt8))
  | [], _ => []
  | ws :: r, i => if ws.isEmpty then NL r (i + 1) else (((i + 1 : Nat) : Int), ws) :: NL r (i + 1)
theorem splitL_cons (c : UInt8) : ∀ l : List UInt8, c ∈ l → splitL c l = upTo c l :: splitL c (past c l)
  | [], h => by simp at h
  | x :: xs, h => by
    by_cases e : x = c
    · subst e
      rw [splitL, if_pos rfl]
      simp [upTo, past]
    · have hm : c ∈ xs := by
        rcases List.mem_cons.1 h with h | h
        · exact absurd h.symm e
        · exact h
      have ih := splitL_cons c xs hm
      have hx : (x != c) = true := by simpa using e
      rw [splitL, if_neg e, ih]
      simp [upTo, past, hx]
theorem NL_step (rest : List UInt8) (k : Nat) : NL ((splitL 10 rest).map lineW) k = (if (lineW (upTo 10 rest)).isEmpty then [] else [(((k + 1 : Nat) : Int), lineW (upTo 10 rest))]) ++ NL ((splitL 10 (past 10 rest)).map lineW) (k + 1) := by
  have fin : ∀ j, NL ((splitL 10 []).map lineW) j = [] := fun j => rfl
  by_cases hm : (10 : UInt8) ∈ rest
  · rw [splitL_cons 10 rest hm, List.map_cons]
    show (if (lineW (upTo 10 rest)).isEmpty = true then _ else _) = _
    split <;> rfl
  · obtain ⟨h1, h2⟩ := upTo_no 10 rest hm
    rw [split_no 10 rest hm, h1, h2, fin]
    show (if (lineW rest).isEmpty = true then NL [] (k + 1) else (((k + 1 : Nat) : Int), lineW rest) :: NL [] (k + 1)) = _
    split <;> simp [NL]
/-- What is read from numbered lines. -/
def rdN (parse : List (List UInt8) → Option (List Int)) (most : Nat) : List (Int × List (List UInt8)) → Nat → List Int → List Int × Int × Int
  | [], _, acc => (acc, 0, 0)
  | (i, ws) :: r, n, acc => match parse ws with
    | none => ([], 19, i)
    | some zs => if most ≤ n then ([], 8, i) else rdN parse most r (n + 1) (acc ++ zs)
theorem rdL_N (parse : List (List UInt8) → Option (List Int)) (most : Nat) : ∀ (Lw : List (List (List UInt8))) (n : Nat) (acc : List Int) (i : Nat), rdL parse most Lw n acc i = rdN parse most (NL Lw i) n acc
  | [], _, _, _ => rfl
  | ws :: r, n, acc, i => by
    unfold rdL NL
    by_cases h : ws.isEmpty = true
    · rw [if_pos h, if_pos h]; exact rdL_N parse most r n acc (i + 1)
    · rw [if_neg h, if_neg h]
      unfold rdN
      cases parse ws with
      | none => rfl
      | some zs =>
        by_cases hm : most ≤ n
        · simp only [if_pos hm]
        · simp only [if_neg hm]; exact rdL_N parse most r (n + 1) (acc ++ zs) (i + 1)
/-- A line that is handed over: its number, where its words lie, the words. -/
structure Lin where
  num : Int
  blk : Nat
  ws : List (List UInt8)
def Lin.vals (x : Lin) : Array Value := #[.int .i64 x.num, .slice (some ⟨x.blk, 0, none⟩) x.ws.length x.ws.length]
def Lin.ok (x : Lin) (W : World) : Prop := ArrS W (some ⟨x.blk, 0, none⟩) x.ws ∧ x.ws ≠ [] ∧ (∀ p ∈ x.ws, p.length ≤ 20000) ∧ x.ws.length ≤ 20001 ∧ 0 ≤ x.num ∧ x.num ≤ 1000000
def Lin.cont (x : Lin) : Int × List (List UInt8) := (x.num, x.ws)
def sizeV : Value → Nat
  | .string s => s.size
  | _ => 0
theorem sizeV_s (l : List UInt8) : sizeV (.string (bs l)) = l.length := bs_size l
theorem fieldsB_count : ∀ (x cur : List UInt8), (fieldsB x cur).length ≤ x.length + 1
  | [], cur => by unfold fieldsB; split <;> simp
  | c :: r, cur => by
    unfold fieldsB
    have h1 := fieldsB_count r []
    have h2 := fieldsB_count r (cur ++ [c])
    split
    · split
      · simp; omega
      · simp; omega
    · simp; omega
theorem lineW_count (q : List UInt8) : (lineW q).length ≤ q.length + 1 := by
  have h1 := fieldsB_count (upTo 35 q) []
  have h2 := upTo_len 35 q
  unfold lineW
  omega
end Go.Proofs.Ytgegnkboibgbgaa
