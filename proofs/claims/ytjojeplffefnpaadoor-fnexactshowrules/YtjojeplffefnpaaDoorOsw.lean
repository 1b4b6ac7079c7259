/-
Contracts of functions of this seat.
-/
import Derived.Test.YtjojeplffefnpaaDoorRows
import Derived.WalkKit
import Derived.ProofKit
import Derived.OpenShut
import Derived.Test.YtjojeplffefnpaaDoorPre
import Derived.Test.YtjojeplffefnpaaDoorShm
import Derived.Lib.AppendIntMem
import Derived.Laws.OwnMore
namespace Go.Proofs.YtjojeplffefnpaaDoor
open Go.ChangeShapes Go.WideShapes Go.ChangeAt Go.RowKit
set_option linter.unusedVariables false
set_option maxRecDepth 100000
/-- A slice of strings in memory of one's own, from block B on. -/
def OwnW (w : World) (B : Nat) (v : Value) (ss : List ByteArray) : Prop := w.ownsRow B 9 1 v ss.length (ss.map Value.string)
theorem OwnW.lit (w : World) (B : Nat) (ss : List ByteArray) (hB : B ≤ w.heap.size) (hm : ss.length ≤ maxLen) : OwnW (w.alloc (.cells (ss.map Value.string).toArray 9)) B (.slice (some ⟨w.heap.size, 0, none⟩) ss.length ss.length) ss :=
  ⟨by simp, .inr ⟨w.heap.size, ss.length, (ss.map Value.string).toArray, rfl, hB, heap_alloc_new _ _, Nat.le_refl _, hm, by simp, by rw [Nat.mul_one]; exact List.take_of_length_le (by simp)⟩⟩
theorem OwnW.next {w w' : World} {B : Nat} {v : Value} {ss : List ByteArray} (h : OwnW w B v ss) (hb : Below w.heap.size w w') : OwnW w' B v ss := by
  refine ⟨h.1, ?_⟩
  rcases h.2 with h2 | ⟨g, cap, cur, hv, hB, hg, h3⟩
  · exact .inl h2
  · exact .inr ⟨g, cap, cur, hv, hB, (hb.block g (Array.getElem?_eq_some_iff.1 hg).1).trans hg, h3⟩
theorem OwnW.mono {w : World} {B C : Nat} {v : Value} {ss : List ByteArray} (h : OwnW w B v ss) (hC : C ≤ B) : OwnW w C v ss := by
  refine ⟨h.1, ?_⟩
  rcases h.2 with h2 | ⟨g, cap, cur, hv, hB, h3⟩
  · exact .inl h2
  · exact .inr ⟨g, cap, cur, hv, by omega, h3⟩
theorem OwnW.app {w : World} {B n : Nat} {v : Value} {xs ys : List ByteArray} (h : w.ownsRow B 9 1 v n (xs.map Value.string ++ ys.map Value.string)) (hn : n = xs.length + ys.length) : OwnW w B v (xs ++ ys) := by
  unfold OwnW
  rw [List.map_append, List.length_append, ← hn]
  exact h
theorem strCells1 (ss : List ByteArray) : ∀ u ∈ ss.map Value.string, u.oneCell' = true := by
  intro u hu
  obtain ⟨z, _, rfl⟩ := List.mem_map.1 hu
  rfl
theorem OwnW.form {w : World} {B : Nat} {v : Value} {ss : List ByteArray} (h : OwnW w B v ss) (h0 : ss ≠ []) : ∃ g cap, v = .slice (some ⟨g, 0, none⟩) ss.length cap ∧ B ≤ g ∧ g < w.heap.size ∧ ss.length ≤ cap ∧ ∀ (j : Nat) x, ss[j]? = some x → w.cell? ⟨g, 0 + j, none⟩ = some (.string x) := by
  rcases h.2 with ⟨_, hn⟩ | ⟨g, cap, cur, hv, hB, hg, hnc, hcm, hcs, htake⟩
  · exact absurd (List.length_eq_zero_iff.1 hn) h0
  · refine ⟨g, cap, hv, hB, (Array.getElem?_eq_some_iff.1 hg).1, hnc, fun j x hx => ?_⟩
    have hj : j < ss.length := (List.getElem?_eq_some_iff.1 hx).1
    have h' : w.ownsRow B 9 1 (.slice (some ⟨g, 0, none⟩) ss.length cap) ss.length (ss.map Value.string) := hv ▸ h
    have hc := h'.cellAt j (by omega)
    rw [Nat.zero_add, hc, List.getElem?_map, hx]
    rfl
theorem two_strs (w : World) (x y : ByteArray) (t : Nat) : ∀ (j : Nat) u, ([x, y].map Value.string)[j]? = some u → (w.alloc (.cells #[.string x, .string y] t)).cell? ((⟨w.heap.size, 0, none⟩ : Addr).add j) = some u := by
  intro j u hu
  match j with
  | 0 =>
    simp at hu
    subst hu
    exact cell_of_row _ w.heap.size 0 #[.string x, .string y] t (0, 0) (heap_alloc_new w _)
  | 1 =>
    simp at hu
    subst hu
    exact cell_of_row _ w.heap.size 1 #[.string x, .string y] t (0, 0) (heap_alloc_new w _)
  | j + 2 => simp at hu
theorem grown_box {w w' : World} {B H T : Nat} {v : Value} {vs : Array Value} {n : Nat} {xs : List Value} (h : HoldV w H vs T) (hg : w.grownBy w' v.ownBlock) (ho : w.ownsRow B 9 1 v n xs) (hB : H < B) : HoldV w' H vs T := by
  refine (hg.block H h.lt (fun e => ?_)).trans h
  rcases ho.2 with ⟨rfl, _⟩ | ⟨g, cap, cur, rfl, hBg, _⟩
  · cases e
  · have e2 : H = g := by cases e; rfl
    omega
theorem grown_low {w w' : World} {B C : Nat} {v : Value} {n : Nat} {xs : List Value} (hg : w.grownBy w' v.ownBlock) (ho : w.ownsRow B 9 1 v n xs) (hC : C ≤ B) (hs : C ≤ w.heap.size) : Below C w w' := by
  rcases ho.2 with ⟨rfl, _⟩ | ⟨g, cap, cur, rfl, hBg, _⟩
  · exact Below.grown (Below.refl _ _) hg hs (fun k e => by cases e)
  · exact grown_under (g := g) hg (by omega) hs
theorem decG_digits (n : Nat) : decG n = ⟨(Lib.decDigits n).toArray⟩ := by
  induction n using Nat.strongRecOn with
  | ind n ih =>
    rw [decG, Lib.decDigits]
    by_cases h : n < 10
    · rw [dif_pos h, dif_pos h]
      show (⟨#[dg (n : Int)]⟩ : ByteArray) = ⟨#[UInt8.ofNat (48 + n)]⟩
      unfold dg
      rw [show ((n : Int)).toNat = n by omega]
    · rw [dif_neg h, dif_neg h, ih (n / 10) (by omega)]
      have e : dg ((n : Int) % 10) = UInt8.ofNat (48 + n % 10) := by
        unfold dg
        rw [show ((n : Int) % 10).toNat = n % 10 by omega]
      rw [e]
      apply ByteArray.ext
      simp [ByteArray.data_append]
theorem fmtInt_walk (n : Int) (h0 : 0 ≤ n) (h1 : n ≤ 1000000) (w : World) (ht : Lib.TabIs Tryd.prog w "internal/strconv.uint64pow10" .u64 Lib.pow10Tab) :
    Calls Tryd.prog 89 #[.int .i64 n, .int .i64 10] w fun e w' => e = .returned (.string (decG n.toNat)) ∧ Below w.heap.size w w' := by
  refine (Any.strconv_FormatInt_10 Tryd.laysM173 n (by omega) (by omega) w ht).mono ?_
  rintro e w' ⟨rfl, k, os, rfl⟩
  refine ⟨?_, Lib.below_grow _ w (Nat.le_refl _) k os⟩
  rw [decG_digits]
  unfold Lib.itoa
  rw [if_neg (by omega)]
end Go.Proofs.YtjojeplffefnpaaDoor
