/-
Contracts of functions of this seat.
-/
import Derived.Test.YtfffkgladjphoaaRows
import Derived.WalkKit
import Derived.ProofKit
import Derived.OpenShut
import Derived.Test.YtfffkgladjphoaaBl11
import Derived.StillTailTactics
import Derived.BigQuiet
import Derived.Deep.Cut
namespace Go.Proofs.Ytfffkgladjphoaa
open Go.ChangeShapes Go.WideShapes Go.ChangeAt Go.RowKit
set_option linter.unusedVariables false
set_option maxRecDepth 100000
theorem still_of_quiet {P : Program} {ops : Array Oper} {w : World} {Q : Act → Prop} : ∀ (l : List Oper) (a : Act), wpQuiet P ops (fun w' => w' = w) Q l a → wpStill P ops w Q l a
  | [], _, h => h
  | o :: rest, a, h => by
    unfold wpQuiet at h
    unfold wpStill
    by_cases hw : Region.wanted o (yielded ops a.tmps) = true
    · rw [if_pos hw] at h ⊢
      obtain ⟨v, h1, h2⟩ := h
      have h3 := h1 w rfl
      have h4 := still_of_quiet rest _ h2
      unfold Oper.quietAt at h3
      unfold Oper.still
      revert h3
      generalize (execOp a.eval o).run P w = R
      intro h3
      unfold Oper.quietUpon at h3
      unfold Oper.stillUpon
      split at h3
      · obtain ⟨rfl, rfl⟩ := h3
        exact ⟨rfl, h4⟩
      · obtain ⟨rfl, rfl⟩ := h3
        exact ⟨rfl, h4⟩
      · obtain ⟨rfl, hc⟩ := h3
        exact ⟨rfl, v, hc, h4⟩
      · exact h3.elim
    · rw [if_neg hw] at h ⊢
      exact still_of_quiet rest _ h
/-- A region that only looks, and then does what has waited for all of it. -/
theorem region_tail {P : Program} {id : Nat} {Q : Exit → Act → World → Prop} {a : Act} {w : World} {l : List Oper} (n : Nat) (hm : P.follows .mixedOrders = true) (hB : Region.lexTailB .any l.toArray n = true)
    (h : wpQuiet P l.toArray (fun w' => w' = w.drew) (fun a' => wpList P l.toArray Q (l.drop n) a' w.drew) (l.take n) a) : (Code.region id l.toArray true).wp P Q a w := wp_region_still_tail n hm hB (still_of_quiet _ _ h)

/-- What is sent and when are valid. -/
def sdOK (k t : Int) : Prop := (1 ≤ k ∧ k ≤ 65535) ∧ (0 ≤ t ∧ t ≤ 1000000000)
instance (k t : Int) : Decidable (sdOK k t) := by unfold sdOK; infer_instance
/-- There is no room. -/
def sdFull (x k : Int) (os : List PieceM) : Prop := os.length = 4096 ∨ 1099511627776 < x + k
instance (x k : Int) (os : List PieceM) : Decidable (sdFull x k os) := by unfold sdFull; infer_instance
abbrev newP (x k t : Int) : PieceM := ⟨x, x + k, t, 1, false, false⟩
theorem DL.setx {w : World} {B L : Nat} {u x : Int} {ns : List (Nat × PieceM)} (h : DL w B L u x ns) (y : Int) : DL (w.setCell ⟨L, 1, none⟩ (.int .i64 y)) B L u y ns := by
  refine ⟨hv_set h.head 1 _, h.seg.frame (fun b hb => heap_setCell_other _ _ b _ (fun e => ?_)), h.nd, h.lo⟩
  have h1 := (List.nodup_cons.1 h.nd).1
  exact h1 (by rw [show L = b from e.symm]; exact hb)
end Go.Proofs.Ytfffkgladjphoaa
