/-
Contracts of functions of this seat.
-/
import Derived.Test.YtgegnkboibgbgaaRows
import Derived.WalkKit
import Derived.ProofKit
import Derived.OpenShut
import Derived.Test.YtgegnkboibgbgaaLno
import Derived.Test.YtgegnkboibgbgaaRgo
namespace Go.Proofs.Ytgegnkboibgbgaa
open Go.ChangeShapes Go.WideShapes Go.ChangeAt Go.RowKit
set_option linter.unusedVariables false
set_option maxRecDepth 100000
/-- All of these lines went in: how many things, and their numbers. -/
def rdS (parse : List (List UInt8) → Option (List Int)) (most : Nat) : List (Int × List (List UInt8)) → Nat → List Int → Option (Nat × List Int)
  | [], n, acc => some (n, acc)
  | (_, ws) :: r, n, acc => match parse ws with
    | none => none
    | some zs => if most ≤ n then none else rdS parse most r (n + 1) (acc ++ zs)
theorem rdS_app {parse : List (List UInt8) → Option (List Int)} {most : Nat} : ∀ {xs : List (Int × List (List UInt8))} {n n' : Nat} {acc acc' : List Int} (ys : List (Int × List (List UInt8))), rdS parse most xs n acc = some (n', acc') → rdS parse most (xs ++ ys) n acc = rdS parse most ys n' acc' ∧ rdN parse most (xs ++ ys) n acc = rdN parse most ys n' acc'
  | [], n, n', acc, acc', ys, h => by
    simp only [rdS, Option.some.injEq, Prod.mk.injEq] at h
    obtain ⟨rfl, rfl⟩ := h
    exact ⟨rfl, rfl⟩
  | (i, ws) :: r, n, n', acc, acc', ys, h => by
    unfold rdS at h
    cases e : parse ws with
    | none => rw [e] at h; cases h
    | some zs =>
      rw [e] at h
      simp only at h
      by_cases hm : most ≤ n
      · rw [if_pos hm] at h; cases h
      · rw [if_neg hm] at h
        have ih := rdS_app ys h
        constructor
        · show (match parse ws with | none => none | some zs => _) = _
          rw [e]
          simp only [if_neg hm]
          exact ih.1
        · show (match parse ws with | none => _ | some zs => _) = _
          rw [e]
          simp only [if_neg hm]
          exact ih.2
abbrev rT : Nat := 39
abbrev rlT : Nat := 22
/-- readLines under way: what its boxes hold. -/
def RLS (w W : World) (r0 r1 r2 lv : Value) : Prop := Below w.heap.size w W ∧ HoldV W w.heap.size #[.int .i64 64] 3 ∧ HoldV W (w.heap.size + 1) #[.func (.func 18) #[] #[]] 41 ∧ HoldV W (w.heap.size + 1 + 1) #[r0] rlT ∧ HoldV W (w.heap.size + 1 + 1 + 1) #[r1] 2 ∧ HoldV W (w.heap.size + 1 + 1 + 1 + 1) #[r2] 2 ∧ HoldV W (w.heap.size + 1 + 1 + 1 + 1 + 1) #[lv] rlT
theorem RLS.next {w W W' : World} {r0 r1 r2 lv : Value} (h : RLS w W r0 r1 r2 lv) (hb : Below W.heap.size W W') : RLS w W' r0 r1 r2 lv := by
  obtain ⟨h1, h2, h3, h4, h5, h6, h7⟩ := h
  exact ⟨h1.trans (hb.mono h1.size), h2.next hb, h3.next hb, h4.next hb, h5.next hb, h6.next hb, h7.next hb⟩
theorem HoldV.stay {W : World} {b T l : Nat} {vs : Array Value} {o o' : Obj} (h : HoldV W b vs T) (hl : W.heap[l]? = some o) (ho : o.isCells = false) : HoldV (W.putObj l o') b vs T := by
  have hne : b ≠ l := fun e => by
    subst e
    unfold HoldV at h
    rw [h] at hl
    cases hl
    cases ho
  exact (World.putObj_heap_other hne).trans h
theorem below_stay {w W : World} {l : Nat} {o o' : Obj} (h : Below w.heap.size w W) (hw : w.heap.size ≤ l) (hl : W.heap[l]? = some o) : Below w.heap.size w (W.putObj l o') :=
  h.grown (grownBy_putObj' W l o') h.size (fun k e => by cases e; exact hw)
theorem RLS.stay {w W : World} {r0 r1 r2 lv : Value} {l : Nat} {o o' : Obj} (h : RLS w W r0 r1 r2 lv) (hw : w.heap.size ≤ l) (hl : W.heap[l]? = some o) (ho : o.isCells = false) : RLS w (W.putObj l o') r0 r1 r2 lv := by
  obtain ⟨h1, h2, h3, h4, h5, h6, h7⟩ := h
  exact ⟨below_stay h1 hw hl, h2.stay hl ho, h3.stay hl ho, h4.stay hl ho, h5.stay hl ho, h6.stay hl ho, h7.stay hl ho⟩
theorem row_stay {W : World} {B e K n l : Nat} {v : Value} {xs : List Value} {o o' : Obj} (h : W.ownsRow B e K v n xs) (hl : W.heap[l]? = some o) (ho : o.isCells = false) : (W.putObj l o').ownsRow B e K v n xs := by
  refine row_kept h (fun b eb => ?_)
  rcases h.2 with ⟨rfl, _⟩ | ⟨g, cap, cur, rfl, _, hg, _⟩
  · simp [Value.ownBlock] at eb
  · simp [Value.ownBlock] at eb
    subst eb
    refine World.putObj_heap_other (fun e => ?_)
    subst e
    rw [hg] at hl
    cases hl
    cases ho
theorem RLS.grown {w W W' : World} {r0 r1 r2 lv v : Value} {n K e : Nat} {xs : List Value} (h : RLS w W r0 r1 r2 lv) (ho : W.ownsRow (w.heap.size + 9) e K v n xs) (hs : w.heap.size + 9 ≤ W.heap.size) (hg : W.grownBy W' v.ownBlock) : RLS w W' r0 r1 r2 lv := by
  obtain ⟨h1, h2, h3, h4, h5, h6, h7⟩ := h
  have hb : Below (w.heap.size + 9) W W' := below_row (Below.refl _ _) ho (Nat.le_refl _) hs hg
  exact ⟨h1.trans (hb.mono (by omega)), h2.below hb (by omega), h3.below hb (by omega), h4.below hb (by omega), h5.below hb (by omega), h6.below hb (by omega), h7.below hb (by omega)⟩
theorem HoldV.set1 {w : World} {H T : Nat} {x y : Value} (h : HoldV w H #[x] T) : HoldV (w.setCell ⟨H, 0, none⟩ y) H #[y] T := heap_setCell_same w H 0 _ _ y h
theorem HoldV.far1 {w : World} {H T X : Nat} {vs : Array Value} {y : Value} (h : HoldV w H vs T) (hX : X ≠ H) : HoldV (w.setCell ⟨X, 0, none⟩ y) H vs T := (heap_setCell_other w ⟨X, 0, none⟩ H y (fun e => hX e.symm)).trans h
theorem RLS.list {w W : World} {r0 r1 r2 lv y : Value} (h : RLS w W r0 r1 r2 lv) : RLS w (W.setCell ⟨w.heap.size + 1 + 1 + 1 + 1 + 1, 0, none⟩ y) r0 r1 r2 y := by
  obtain ⟨h1, h2, h3, h4, h5, h6, h7⟩ := h
  exact ⟨h1.setCell (p := ⟨w.heap.size + 1 + 1 + 1 + 1 + 1, 0, none⟩) (by show w.heap.size ≤ w.heap.size + 1 + 1 + 1 + 1 + 1; omega) _, h2.far1 (by omega), h3.far1 (by omega), h4.far1 (by omega), h5.far1 (by omega), h6.far1 (by omega), h7.set1⟩
theorem RLS.ans {w W : World} {r0 r1 r2 lv x y z : Value} (h : RLS w W r0 r1 r2 lv) : RLS w (((W.setCell ⟨w.heap.size + 1 + 1, 0, none⟩ x).setCell ⟨w.heap.size + 1 + 1 + 1, 0, none⟩ y).setCell ⟨w.heap.size + 1 + 1 + 1 + 1, 0, none⟩ z) x y z lv := by
  obtain ⟨h1, h2, h3, h4, h5, h6, h7⟩ := h
  exact ⟨((h1.setCell (p := ⟨w.heap.size + 1 + 1, 0, none⟩) (by show w.heap.size ≤ w.heap.size + 1 + 1; omega) _).setCell (p := ⟨w.heap.size + 1 + 1 + 1, 0, none⟩) (by show w.heap.size ≤ w.heap.size + 1 + 1 + 1; omega) _).setCell (p := ⟨w.heap.size + 1 + 1 + 1 + 1, 0, none⟩) (by show w.heap.size ≤ w.heap.size + 1 + 1 + 1 + 1; omega) _, ((h2.far1 (by omega)).far1 (by omega)).far1 (by omega), ((h3.far1 (by omega)).far1 (by omega)).far1 (by omega), ((h4.set1).far1 (by omega)).far1 (by omega), ((h5.far1 (by omega)).set1).far1 (by omega), ((h6.far1 (by omega)).far1 (by omega)).set1, ((h7.far1 (by omega)).far1 (by omega)).far1 (by omega)⟩
theorem ok_stays (D : Nat) (x : Lin) : Stays D (Lin.ok x) := by
  intro W l o o' h hD hl ho
  refine ⟨fun j hj => ?_, h.2⟩
  obtain ⟨b, off, e, hb, hc⟩ := h.1 j hj
  exact ⟨b, off, e, by simpa using hb, cell_kept hc (grownBy_putObj' W l o') (fun r e => by cases e; exact ⟨_, hl, ho⟩)⟩
end Go.Proofs.Ytgegnkboibgbgaa
