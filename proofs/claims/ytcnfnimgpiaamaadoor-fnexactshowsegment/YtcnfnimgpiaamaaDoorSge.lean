/-
Contracts of functions of this seat.
-/
import Derived.Test.YtcnfnimgpiaamaaDoorRows
import Derived.WalkKit
import Derived.ProofKit
import Derived.OpenShut
import Derived.Test.YtcnfnimgpiaamaaDoorSmu
namespace Go.Proofs.YtcnfnimgpiaamaaDoor
open Go.ChangeShapes Go.WideShapes Go.ChangeAt Go.RowKit
set_option linter.unusedVariables false
set_option maxRecDepth 100000
/-- What EncodeSegment's code is. -/
def sgV (x0 x1 x2 x3 x4 x5 x6 : Int) (x7 : Bool) (x8 : Int) (n0 : Nat) (z : List Int) (s d : Int) : Bool := sgOK x0 x1 x2 x3 x4 x5 x6 x7 x8 n0 z && adrB s && adrB d
/-- A segment's bytes, without their sum, and with it. -/
def sgB (x0 x1 x2 x3 x4 x5 : Int) (O z1 : List Int) : List Int := putL x0 2 ++ putL x1 2 ++ putL x2 4 ++ putL x3 4 ++ [(20 + (O.length : Int)) / 4 * 16 % 256, x4] ++ putL x5 2 ++ [0, 0, 0, 0] ++ (O ++ z1)
def sgW (x0 x1 x2 x3 x4 x5 : Int) (O z1 : List Int) (s d : Int) : List Int := ((sgB x0 x1 x2 x3 x4 x5 O z1).set 16 (fsum s d 6 (sgB x0 x1 x2 x3 x4 x5 O z1) / 256)).set 17 (fsum s d 6 (sgB x0 x1 x2 x3 x4 x5 O z1) % 256)
/-- The state while a segment's bytes are put together: what is put so far (L), the options (O), the data (z1). -/
def EcS (w W : World) (vs : Array Value) (a1 : Option Addr) (z1 : List Int) (vo : Value) (O : List Int) (vb : Value) (L : List Int) : Prop := Below w.heap.size w W ∧ HoldV W w.heap.size vs sgT ∧ OwnB W (w.heap.size + 1) vo O ∧ OwnB W (w.heap.size + 1) vb L ∧ Arr W a1 z1
theorem EcS.next {w W W' : World} {vs : Array Value} {a1 : Option Addr} {z1 : List Int} {vo vb : Value} {O L : List Int} (h : EcS w W vs a1 z1 vo O vb L) (hb : Below W.heap.size W W') : EcS w W' vs a1 z1 vo O vb L := ⟨below_on h.1 hb, h.2.1.next hb, h.2.2.1.nx hb, h.2.2.2.1.nx hb, h.2.2.2.2.below hb (Nat.le_refl _)⟩
theorem EcS.put {w W : World} {vs : Array Value} {a1 : Option Addr} {z1 : List Int} {vo vb u : Value} {O L M : List Int} (h : EcS w W vs a1 z1 vo O vb L) (ho : OwnB W (w.heap.size + 1) u M) : EcS w W vs a1 z1 vo O u M := ⟨h.1, h.2.1, h.2.2.1, ho, h.2.2.2.2⟩
theorem EcS.lt {w W : World} {vs : Array Value} {a1 : Option Addr} {z1 : List Int} {vo vb : Value} {O L : List Int} (h : EcS w W vs a1 z1 vo O vb L) : w.heap.size + 1 ≤ W.heap.size := h.2.1.lt
def A6s (N X : Nat) (x0 x1 x2 x3 : Int) (va : Value) (vd : Value) (L O z1 : List Int) : Nat → Value → World → Prop
  | 0, v, _ => v = .pointer (some ⟨X, 0, none⟩)
  | 1, v, _ => v = .int .i64 x0
  | 2, v, W => OwnB W N v (putL x0 2)
  | 3, v, _ => v = .pointer (some ⟨X, 1, none⟩)
  | 4, v, _ => v = .int .i64 x1
  | 5, v, W => OwnB W N v (putL x1 2)
  | 6, v, W => OwnB W N v (putL x0 2 ++ putL x1 2)
  | _, _, _ => True
theorem A6s_kept {N X : Nat} {x0 x1 x2 x3 : Int} {va vd : Value} {L O z1 : List Int} : ∀ (i : Nat) (v : Value) (W W2 : World), Below W.heap.size W W2 → A6s N X x0 x1 x2 x3 va vd L O z1 i v W → A6s N X x0 x1 x2 x3 va vd L O z1 i v W2 := by
  intro i v W W2 hb h
  unfold A6s at h ⊢
  split at h
  all_goals first
    | exact h
    | exact OwnB.nx h hb
def A7s (N X : Nat) (x0 x1 x2 x3 : Int) (va : Value) (vd : Value) (L O z1 : List Int) : Nat → Value → World → Prop
  | 0, v, W => OwnB W N v (L)
  | 1, v, _ => v = .pointer (some ⟨X, 2, none⟩)
  | 2, v, _ => v = .int .i64 x2
  | 3, v, W => OwnB W N v (putL x2 4)
  | 4, v, W => OwnB W N v (L ++ putL x2 4)
  | 5, v, _ => v = .pointer (some ⟨X, 3, none⟩)
  | 6, v, _ => v = .int .i64 x3
  | 7, v, W => OwnB W N v (putL x3 4)
  | 8, v, W => OwnB W N v (L ++ putL x2 4 ++ putL x3 4)
  | _, _, _ => True
theorem A7s_kept {N X : Nat} {x0 x1 x2 x3 : Int} {va vd : Value} {L O z1 : List Int} : ∀ (i : Nat) (v : Value) (W W2 : World), Below W.heap.size W W2 → A7s N X x0 x1 x2 x3 va vd L O z1 i v W → A7s N X x0 x1 x2 x3 va vd L O z1 i v W2 := by
  intro i v W W2 hb h
  unfold A7s at h ⊢
  split at h
  all_goals first
    | exact h
    | exact OwnB.nx h hb
def A10s (N X : Nat) (x0 x1 x2 x3 : Int) (va : Value) (vd : Value) (L O z1 : List Int) : Nat → Value → World → Prop
  | 0, v, W => OwnB W N v (L)
  | 1, v, W => OwnB W N v ([0, 0, 0, 0])
  | 2, v, W => OwnB W N v (L ++ [0, 0, 0, 0])
  | 3, v, W => OwnB W N v (O)
  | 4, v, _ => v = .pointer (some ⟨X, 11, none⟩)
  | 5, v, _ => v = vd
  | 6, v, W => OwnB W N v (O ++ z1)
  | 7, v, W => OwnB W N v ((L ++ [0, 0, 0, 0]) ++ (O ++ z1))
  | _, _, _ => True
theorem A10s_kept {N X : Nat} {x0 x1 x2 x3 : Int} {va vd : Value} {L O z1 : List Int} : ∀ (i : Nat) (v : Value) (W W2 : World), Below W.heap.size W W2 → A10s N X x0 x1 x2 x3 va vd L O z1 i v W → A10s N X x0 x1 x2 x3 va vd L O z1 i v W2 := by
  intro i v W W2 hb h
  unfold A10s at h ⊢
  split at h
  all_goals first
    | exact h
    | exact OwnB.nx h hb
theorem own_cx {w : World} {B ub n cap : Nat} {zs : List Int} (h : OwnB w B (.slice (some ⟨ub, 0, none⟩) n cap) zs) (hn : zs.length = n) (i : Nat) (hi : i < n) : ∃ x, w.cell? ⟨ub, i, none⟩ = some (.int .u8 x) := by
  subst hn
  exact ⟨_, by rw [h.1.cellAt i (by omega), bval_get zs i hi]⟩
theorem own_fz {w : World} {B ub n cap : Nat} {zs : List Int} (h : OwnB w B (.slice (some ⟨ub, 0, none⟩) n cap) zs) (i : Nat) : w.frozen? ⟨ub, i, none⟩ = false := by
  rcases h.1.2 with ⟨hn, _⟩ | ⟨r, c, cur, hv, hr, hc, rest⟩
  · cases hn
  · injection hv with h1; injection h1 with h2; injection h2 with h3; subst h3
    exact frozen_of_row w _ i _ _ hc
end Go.Proofs.YtcnfnimgpiaamaaDoor
