/-
Contracts of functions of this seat.
-/
import Derived.Test.YtmlpninkilcjaaaRows
import Derived.WalkKit
import Derived.ProofKit
import Derived.OpenShut
import Derived.Test.YtmlpninkilcjaaaTrm
namespace Go.Proofs.Ytmlpninkilcjaaa
open Go.ChangeShapes Go.WideShapes Go.ChangeAt Go.RowKit
set_option linter.unusedVariables false
set_option maxRecDepth 100000
/-- The side of a node on which an address lies. -/
def sideI (x b : Int) : Int := x * 2 ^ b.toNat / 2147483648 % 2
theorem side_walk (B : Nat) (a b : Int) (h s0 s1 : Value) (x : Int) (w : World) (hx0 : 0 ≤ x) (hx1 : x ≤ 4294967295) (hb0 : 0 ≤ b) (hb1 : b ≤ 32) (hB : HoldV w B #[.int .i64 a, .int .i64 b, h, s0, s1] 81) :
    Calls Try.prog 45 #[.pointer (some ⟨B, 0, none⟩), .int .i64 x] w fun e w' => e = .returned (.int .i64 (sideI x b)) ∧ w' = w := by
  have c1 := hB.cell 1 _ rfl
  have HE : Hid (bits .and .i64 (wrap64 (x * 2 ^ b.toNat) / 2147483648) 1 = sideI x b) := hide (by
    rw [and_1_i64]
    unfold sideI wrap64
    generalize x * 2 ^ b.toNat = y
    omega)
  go_enter Try.func45, Try.ntmps45
  go_wp2_with fail
  go_ret
  exact ⟨ret_int HE.out, rfl⟩
abbrev ndT : Nat := 81
abbrev prT : Nat := 25
theorem HoldV.set {w : World} {H T : Nat} {vs : Array Value} (h : HoldV w H vs T) (i : Nat) (y : Value) : HoldV (w.setCell ⟨H, i, none⟩ y) H (vs.setIfInBounds i y) T := heap_setCell_same w H i _ _ y h
theorem HoldV.other {w : World} {H C T : Nat} {vs : Array Value} (h : HoldV w H vs T) (hC : H ≠ C) (i : Nat) (y : Value) : HoldV (w.setCell ⟨C, i, none⟩ y) H vs T := by
  unfold HoldV
  rw [heap_setCell_other _ ⟨C, i, none⟩ H y hC]
  exact h
theorem HoldV.drew {w : World} {H T : Nat} {vs : Array Value} (h : HoldV w H vs T) : HoldV w.drew H vs T := h
theorem HoldV.new (w : World) (vs : Array Value) (T : Nat) : HoldV (w.alloc (.cells vs T)) w.heap.size vs T := heap_alloc_new _ _
theorem hold_alloc_d {X w' : World} {vs : Array Value} {T : Nat} (hb : Below (X.alloc (.cells vs T)).drew.heap.size (X.alloc (.cells vs T)).drew w') : HoldV w' X.heap.size vs T := (hb.block _ (by show _ < (X.alloc _).heap.size; rw [World.size_alloc]; omega)).trans (heap_alloc_new _ _)
/-- A node's block and a prefix's box. -/
def NB (w w' : World) (B : Nat) (vs ps : Array Value) : Prop := Below w.heap.size w w' ∧ HoldV w' B vs ndT ∧ HoldV w' w.heap.size ps prT ∧ B < w.heap.size
theorem NB.next {w w1 w2 : World} {B : Nat} {vs ps : Array Value} (h : NB w w1 B vs ps) (hb : Below w1.heap.size w1 w2) : NB w w2 B vs ps :=
  ⟨h.1.trans (hb.mono h.1.size), h.2.1.next hb, h.2.2.1.next hb, h.2.2.2⟩
theorem NB.alloc {w w1 : World} {B : Nat} {vs ps : Array Value} (h : NB w w1 B vs ps) (o : Obj) : NB w (w1.alloc o) B vs ps := h.next ((Below.refl _ _).alloc (Nat.le_refl _) _)
theorem NB.drew {w w1 : World} {B : Nat} {vs ps : Array Value} (h : NB w w1 B vs ps) : NB w w1.drew B vs ps := h.next (Below.refl _ _).drew
theorem NB.set {w w1 : World} {B C : Nat} {vs ps : Array Value} (h : NB w w1 B vs ps) (hC : w.heap.size < C) (i : Nat) (y : Value) : NB w (w1.setCell ⟨C, i, none⟩ y) B vs ps :=
  ⟨h.1.setCell (p := ⟨C, i, none⟩) (by show w.heap.size ≤ C; omega) _, h.2.1.other (by have := h.2.2.2; omega) _ _, h.2.2.1.other (by omega) _ _, h.2.2.2⟩
theorem NB.start {w : World} {B : Nat} {vs : Array Value} (hB : HoldV w B vs ndT) (ps : Array Value) : NB w (w.alloc (.cells ps prT)) B vs ps :=
  ⟨(Below.refl _ _).alloc (Nat.le_refl _) _, hB.next ((Below.refl _ _).alloc (Nat.le_refl _) _), HoldV.new _ _ _, hB.lt⟩
abbrev NBS (w w' : World) (B : Nat) (a b h s0 s1 pa pb : Value) : Prop := NB w w' B #[a, b, h, s0, s1] #[pa, pb] ∧ w'.cell? ⟨B, 0, none⟩ = some a ∧ w'.cell? ⟨B, 1, none⟩ = some b ∧ w'.cell? ⟨w.heap.size, 0, none⟩ = some pa ∧ w'.cell? ⟨w.heap.size, 1, none⟩ = some pb
theorem NB.cells {w w' : World} {B : Nat} {a b h s0 s1 pa pb : Value} (H : NB w w' B #[a, b, h, s0, s1] #[pa, pb]) : NBS w w' B a b h s0 s1 pa pb :=
  ⟨H, H.2.1.cell 0 _ rfl, H.2.1.cell 1 _ rfl, H.2.2.1.cell 0 _ rfl, H.2.2.1.cell 1 _ rfl⟩
theorem NBS.next {w w1 w2 : World} {B : Nat} {a b h s0 s1 pa pb : Value} (H : NBS w w1 B a b h s0 s1 pa pb) (hb : Below w1.heap.size w1 w2) : NBS w w2 B a b h s0 s1 pa pb := (H.1.next hb).cells
theorem NBS.alloc {w w1 : World} {B : Nat} {a b h s0 s1 pa pb : Value} (H : NBS w w1 B a b h s0 s1 pa pb) (o : Obj) : NBS w (w1.alloc o) B a b h s0 s1 pa pb := (H.1.alloc o).cells
theorem NBS.set2 {w w1 : World} {B C : Nat} {a b h s0 s1 pa pb : Value} (H : NBS w w1 B a b h s0 s1 pa pb) (hC : w.heap.size < C) (x y : Value) : NBS w ((w1.setCell ⟨C, 0, none⟩ x).setCell ⟨C, 1, none⟩ y) B a b h s0 s1 pa pb := ((H.1.set hC 0 x).set hC 1 y).cells
end Go.Proofs.Ytmlpninkilcjaaa
