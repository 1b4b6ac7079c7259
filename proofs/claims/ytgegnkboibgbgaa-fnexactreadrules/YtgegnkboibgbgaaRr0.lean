/-
Contracts of functions of this seat.
-/
import Derived.Test.YtgegnkboibgbgaaRows
import Derived.WalkKit
import Derived.ProofKit
import Derived.OpenShut
import Derived.Test.YtgegnkboibgbgaaPh3
namespace Go.Proofs.Ytgegnkboibgbgaa
open Go.ChangeShapes Go.WideShapes Go.ChangeAt Go.RowKit
set_option linter.unusedVariables false
set_option maxRecDepth 100000
/-- Whether the next word is this one; what is left then. -/
def psB (word : List UInt8) : List (List UInt8) → Bool → Bool
  | q :: _, false => q == word
  | _, _ => false
def psR (word : List UInt8) (ps : List (List UInt8)) (ill : Bool) : List (List UInt8) := if psB word ps ill then ps.tail else ps
theorem phrase_passes (w : World) (p N : Nat) (ps : List (List UInt8)) (ill : Bool) (word : List UInt8) (hl : ps.length ≤ 1048576) (h : Phr w p N ps ill) :
    Calls Try.prog 32 #[.pointer (some ⟨p, 0, none⟩), .string (bs word)] w fun e w' => e = .returned (.bool (psB word ps ill)) ∧ Phr w' p N (psR word ps ill) ill ∧ w.grownBy w' (some p) := by
  cases hb : psB word ps ill with
  | true =>
    have he : psR word ps ill = ps.tail := by unfold psR; rw [hb]; rfl
    rw [he]
    cases ill with
    | true => cases ps <;> cases hb
    | false =>
      cases ps with
      | nil => cases hb
      | cons q r =>
        have e : q = word := by simpa [psB] using hb
        subst e
        exact phrase_passes_yes w p N q r (by simp at hl; omega) h
  | false =>
    have he : psR word ps ill = ps := by unfold psR; rw [hb]; rfl
    rw [he]
    refine (phrase_passes_no w p N ps ill word hl h ?_).mono ?_
    · cases ill with
      | true => exact .inl rfl
      | false =>
        cases ps with
        | nil => exact .inr (.inl rfl)
        | cons q r => exact .inr (.inr ⟨q, r, rfl, fun e => by simp [psB, e] at hb⟩)
    · rintro e w' ⟨rfl, rfl⟩
      exact ⟨rfl, h, grown_self _ _⟩
theorem tkR_sub (ps : List (List UInt8)) (ill : Bool) : (tkR ps ill).length ≤ ps.length ∧ ∀ q ∈ tkR ps ill, q ∈ ps := by
  cases ill with
  | true => cases ps <;> exact ⟨Nat.le_refl _, fun _ h => h⟩
  | false => cases ps with
    | nil => exact ⟨Nat.le_refl _, fun _ h => h⟩
    | cons q r => exact ⟨by simp [tkR], fun x h => List.mem_cons_of_mem _ h⟩
theorem psR_sub (word : List UInt8) (ps : List (List UInt8)) (ill : Bool) : (psR word ps ill).length ≤ ps.length ∧ ∀ q ∈ psR word ps ill, q ∈ ps := by
  unfold psR
  split
  · exact ⟨by simp, fun x h => List.mem_of_mem_tail h⟩
  · exact ⟨Nat.le_refl _, fun _ h => h⟩
/-- Words that may be walked. -/
def Wds (ps : List (List UInt8)) : Prop := ps.length ≤ 1048576 ∧ ∀ q ∈ ps, q.length ≤ 1048576
theorem Wds.take {ps : List (List UInt8)} (h : Wds ps) (ill : Bool) : Wds (tkR ps ill) := ⟨Nat.le_trans (tkR_sub ps ill).1 h.1, fun q hq => h.2 q ((tkR_sub ps ill).2 q hq)⟩
theorem Wds.pass {ps : List (List UInt8)} (h : Wds ps) (word : List UInt8) (ill : Bool) : Wds (psR word ps ill) := ⟨Nat.le_trans (psR_sub word ps ill).1 h.1, fun q hq => h.2 q ((psR_sub word ps ill).2 q hq)⟩
/-- readRoute under way: its answer's room, its phrase, its route. -/
structure RRS (w W : World) (ps : List (List UInt8)) (ill : Bool) (A B V L M : Int) : Prop where
  below : Below w.heap.size w W
  box : HoldV W w.heap.size #[.int .i64 0, .int .i64 0, .int .i64 0, .int .i64 0, .int .i64 0] 39
  phr : Phr W (w.heap.size + 1) w.heap.size ps ill
  rt : HoldV W (w.heap.size + 1 + 1) #[.int .i64 A, .int .i64 B, .int .i64 V, .int .i64 L, .int .i64 M] 39
theorem RRS.grow {w W W' : World} {ps ps' : List (List UInt8)} {ill ill' : Bool} {A B V L M : Int} (h : RRS w W ps ill A B V L M) (hp : Phr W' (w.heap.size + 1) w.heap.size ps' ill') (hg : W.grownBy W' (some (w.heap.size + 1))) : RRS w W' ps' ill' A B V L M :=
  ⟨h.below.trans (below_grown (by omega) (by have := h.below.size; omega) hg), (hg.block _ h.box.lt (by simp)).trans h.box, hp, (hg.block _ h.rt.lt (by simp)).trans h.rt⟩
theorem RRS.set {w W : World} {ps : List (List UInt8)} {ill : Bool} {A B V L M : Int} (h : RRS w W ps ill A B V L M) (i : Nat) (y : Int) {A' B' V' L' M' : Int} (he : (#[.int .i64 A, .int .i64 B, .int .i64 V, .int .i64 L, .int .i64 M] : Array Value).setIfInBounds i (.int .i64 y) = #[.int .i64 A', .int .i64 B', .int .i64 V', .int .i64 L', .int .i64 M']) :
    RRS w (W.setCell ⟨w.heap.size + 1 + 1, i, none⟩ (.int .i64 y)) ps ill A' B' V' L' M' :=
  ⟨h.below.trans (below_grown (by omega) (by have := h.below.size; omega) (grown_cell W (w.heap.size + 1 + 1) i _)), h.box.other (by omega) _ _, h.phr.other (by omega) (by omega), by have := h.rt.set i (.int .i64 y); rw [he] at this; exact this⟩
end Go.Proofs.Ytgegnkboibgbgaa
