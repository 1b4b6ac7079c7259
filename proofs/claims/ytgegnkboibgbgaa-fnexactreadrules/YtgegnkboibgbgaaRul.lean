/-
Contracts of functions of this seat.
-/
import Derived.Test.YtgegnkboibgbgaaRows
import Derived.WalkKit
import Derived.ProofKit
import Derived.OpenShut
import Derived.Test.YtgegnkboibgbgaaRdi
import Derived.Test.YtgegnkboibgbgaaSds
import Derived.Test.YtgegnkboibgbgaaRr7
namespace Go.Proofs.Ytgegnkboibgbgaa
open Go.ChangeShapes Go.WideShapes Go.ChangeAt Go.RowKit
set_option linter.unusedVariables false
set_option maxRecDepth 100000
abbrev uT : Nat := 45
abbrev ulT : Nat := 28
/-- readLines under way: what its boxes hold. -/
def ULS (w W : World) (r0 r1 r2 lv : Value) : Prop := Below w.heap.size w W ∧ HoldV W w.heap.size #[.int .i64 64] 3 ∧ HoldV W (w.heap.size + 1) #[.func (.func 22) #[] #[]] 47 ∧ HoldV W (w.heap.size + 1 + 1) #[r0] ulT ∧ HoldV W (w.heap.size + 1 + 1 + 1) #[r1] 2 ∧ HoldV W (w.heap.size + 1 + 1 + 1 + 1) #[r2] 2 ∧ HoldV W (w.heap.size + 1 + 1 + 1 + 1 + 1) #[lv] ulT
theorem ULS.next {w W W' : World} {r0 r1 r2 lv : Value} (h : ULS w W r0 r1 r2 lv) (hb : Below W.heap.size W W') : ULS w W' r0 r1 r2 lv := by
  obtain ⟨h1, h2, h3, h4, h5, h6, h7⟩ := h
  exact ⟨h1.trans (hb.mono h1.size), h2.next hb, h3.next hb, h4.next hb, h5.next hb, h6.next hb, h7.next hb⟩
theorem ULS.stay {w W : World} {r0 r1 r2 lv : Value} {l : Nat} {o o' : Obj} (h : ULS w W r0 r1 r2 lv) (hw : w.heap.size ≤ l) (hl : W.heap[l]? = some o) (ho : o.isCells = false) : ULS w (W.putObj l o') r0 r1 r2 lv := by
  obtain ⟨h1, h2, h3, h4, h5, h6, h7⟩ := h
  exact ⟨below_stay h1 hw hl, h2.stay hl ho, h3.stay hl ho, h4.stay hl ho, h5.stay hl ho, h6.stay hl ho, h7.stay hl ho⟩
theorem ULS.grown {w W W' : World} {r0 r1 r2 lv v : Value} {n K e : Nat} {xs : List Value} (h : ULS w W r0 r1 r2 lv) (ho : W.ownsRow (w.heap.size + 9) e K v n xs) (hs : w.heap.size + 9 ≤ W.heap.size) (hg : W.grownBy W' v.ownBlock) : ULS w W' r0 r1 r2 lv := by
  obtain ⟨h1, h2, h3, h4, h5, h6, h7⟩ := h
  have hb : Below (w.heap.size + 9) W W' := below_row (Below.refl _ _) ho (Nat.le_refl _) hs hg
  exact ⟨h1.trans (hb.mono (by omega)), h2.below hb (by omega), h3.below hb (by omega), h4.below hb (by omega), h5.below hb (by omega), h6.below hb (by omega), h7.below hb (by omega)⟩
theorem ULS.list {w W : World} {r0 r1 r2 lv y : Value} (h : ULS w W r0 r1 r2 lv) : ULS w (W.setCell ⟨w.heap.size + 1 + 1 + 1 + 1 + 1, 0, none⟩ y) r0 r1 r2 y := by
  obtain ⟨h1, h2, h3, h4, h5, h6, h7⟩ := h
  exact ⟨h1.setCell (p := ⟨w.heap.size + 1 + 1 + 1 + 1 + 1, 0, none⟩) (by show w.heap.size ≤ w.heap.size + 1 + 1 + 1 + 1 + 1; omega) _, h2.far1 (by omega), h3.far1 (by omega), h4.far1 (by omega), h5.far1 (by omega), h6.far1 (by omega), h7.set1⟩
theorem ULS.ans {w W : World} {r0 r1 r2 lv x y z : Value} (h : ULS w W r0 r1 r2 lv) : ULS w (((W.setCell ⟨w.heap.size + 1 + 1, 0, none⟩ x).setCell ⟨w.heap.size + 1 + 1 + 1, 0, none⟩ y).setCell ⟨w.heap.size + 1 + 1 + 1 + 1, 0, none⟩ z) x y z lv := by
  obtain ⟨h1, h2, h3, h4, h5, h6, h7⟩ := h
  exact ⟨((h1.setCell (p := ⟨w.heap.size + 1 + 1, 0, none⟩) (by show w.heap.size ≤ w.heap.size + 1 + 1; omega) _).setCell (p := ⟨w.heap.size + 1 + 1 + 1, 0, none⟩) (by show w.heap.size ≤ w.heap.size + 1 + 1 + 1; omega) _).setCell (p := ⟨w.heap.size + 1 + 1 + 1 + 1, 0, none⟩) (by show w.heap.size ≤ w.heap.size + 1 + 1 + 1 + 1; omega) _, ((h2.far1 (by omega)).far1 (by omega)).far1 (by omega), ((h3.far1 (by omega)).far1 (by omega)).far1 (by omega), ((h4.set1).far1 (by omega)).far1 (by omega), ((h5.far1 (by omega)).set1).far1 (by omega), ((h6.far1 (by omega)).far1 (by omega)).set1, ((h7.far1 (by omega)).far1 (by omega)).far1 (by omega)⟩
end Go.Proofs.Ytgegnkboibgbgaa
