/-
Contracts of functions of this seat.
-/
import Derived.Test.YtgegnkboibgbgaaRows
import Derived.WalkKit
import Derived.ProofKit
import Derived.OpenShut
import Derived.Test.YtgegnkboibgbgaaRr0
namespace Go.Proofs.Ytgegnkboibgbgaa
open Go.ChangeShapes Go.WideShapes Go.ChangeAt Go.RowKit
set_option linter.unusedVariables false
set_option maxRecDepth 100000
section
variable {w W : World} {ps : List (List UInt8)} {ill : Bool} {A B V L M : Int}
theorem rr_start (w : World) (a : Option Addr) (ps : List (List UInt8)) (cap : Nat) (hs : ArrS w a ps) (hc : ps.length ≤ cap) : RRS w (((w.alloc (.cells #[.int .i64 0, .int .i64 0, .int .i64 0, .int .i64 0, .int .i64 0] 39)).alloc (.cells #[.slice a ps.length cap, .bool false] phT)).alloc (.cells #[.int .i64 0, .int .i64 0, .int .i64 0, .int .i64 0, .int .i64 0] 39)) ps false 0 0 0 0 0 := by
  obtain ⟨hb, h0, h1⟩ := two_allocs w (.cells #[.int .i64 0, .int .i64 0, .int .i64 0, .int .i64 0, .int .i64 0] 39) (.cells #[.slice a ps.length cap, .bool false] phT)
  have hz : ((w.alloc (.cells #[.int .i64 0, .int .i64 0, .int .i64 0, .int .i64 0, .int .i64 0] 39)).alloc (.cells #[.slice a ps.length cap, .bool false] phT)).heap.size = w.heap.size + 1 + 1 := by simp
  have hb3 := (Below.refl w.heap.size ((w.alloc (.cells #[.int .i64 0, .int .i64 0, .int .i64 0, .int .i64 0, .int .i64 0] 39)).alloc (.cells #[.slice a ps.length cap, .bool false] phT))).alloc (by rw [hz]; omega) (.cells #[.int .i64 0, .int .i64 0, .int .i64 0, .int .i64 0, .int .i64 0] 39)
  have hb4 := (Below.refl (w.heap.size + 1 + 1) ((w.alloc (.cells #[.int .i64 0, .int .i64 0, .int .i64 0, .int .i64 0, .int .i64 0] 39)).alloc (.cells #[.slice a ps.length cap, .bool false] phT))).alloc (Nat.le_of_eq hz.symm) (.cells #[.int .i64 0, .int .i64 0, .int .i64 0, .int .i64 0, .int .i64 0] 39)
  refine ⟨hb.trans hb3, (hb4.block _ (by omega)).trans h0, ⟨a, cap, (hb4.block _ (by omega)).trans h1, hs.below (hb.trans hb3) (Nat.le_refl _), hc, ?_⟩, ?_⟩
  · intro h0 b off e
    have hj : 0 < ps.length := List.length_pos_iff.2 h0
    obtain ⟨b', off', e', hb', _⟩ := hs 0 hj
    rw [e] at e'
    cases e'
    exact ⟨by omega, hb'⟩
  · have := heap_alloc_new ((w.alloc (.cells #[.int .i64 0, .int .i64 0, .int .i64 0, .int .i64 0, .int .i64 0] 39)).alloc (.cells #[.slice a ps.length cap, .bool false] phT)) (.cells #[.int .i64 0, .int .i64 0, .int .i64 0, .int .i64 0, .int .i64 0] 39)
    rw [hz] at this
    exact this
theorem rr_prefix (hd : Wds ps) (h : RRS w W ps ill A B V L M) : Calls Try.prog 31 #[.pointer (some ⟨w.heap.size + 1, 0, none⟩)] W fun e W' => e = .returned (.agg #[.int .i64 (pfA (tkW ps ill)), .int .i64 (pfB (tkW ps ill))]) ∧ RRS w W' (tkR ps ill) (tkI ps ill || !pfOK (tkW ps ill)) A B V L M :=
  (phrase_prefix W _ _ ps ill hd.1 hd.2 h.below.size h.phr).mono fun e W' hh => ⟨hh.1, h.grow hh.2.1 hh.2.2⟩
theorem rr_host (hd : Wds ps) (h : RRS w W ps ill A B V L M) : Calls Try.prog 33 #[.pointer (some ⟨w.heap.size + 1, 0, none⟩)] W fun e W' => e = .returned (.int .i64 (adX (tkW ps ill))) ∧ RRS w W' (tkR ps ill) (tkI ps ill || !hoOK (tkW ps ill)) A B V L M :=
  (phrase_host W _ _ ps ill hd.1 hd.2 h.phr).mono fun e W' hh => ⟨hh.1, h.grow hh.2.1 hh.2.2⟩
theorem rr_decimal (hd : Wds ps) (most : Int) (hm : 0 ≤ most ∧ most ≤ 1000000) (h : RRS w W ps ill A B V L M) : Calls Try.prog 35 #[.pointer (some ⟨w.heap.size + 1, 0, none⟩), .int .i64 most] W fun e W' => e = .returned (.int .i64 (numX (tkW ps ill) most)) ∧ RRS w W' (tkR ps ill) (tkI ps ill || !numOK (tkW ps ill) most) A B V L M :=
  (phrase_decimal W _ _ ps ill most hm hd.1 hd.2 h.phr).mono fun e W' hh => ⟨hh.1, h.grow hh.2.1 hh.2.2⟩
theorem rr_passes (hd : Wds ps) (word : List UInt8) (h : RRS w W ps ill A B V L M) : Calls Try.prog 32 #[.pointer (some ⟨w.heap.size + 1, 0, none⟩), .string (bs word)] W fun e W' => e = .returned (.bool (psB word ps ill)) ∧ RRS w W' (psR word ps ill) ill A B V L M :=
  (phrase_passes W _ _ ps ill word hd.1 h.phr).mono fun e W' hh => ⟨hh.1, h.grow hh.2.1 hh.2.2⟩
theorem rr_demand (hold : Bool) (h : RRS w W ps ill A B V L M) : Calls Try.prog 34 #[.pointer (some ⟨w.heap.size + 1, 0, none⟩), .bool hold] W fun e W' => e = .returned (.tuple #[]) ∧ RRS w W' ps (ill || !hold) A B V L M :=
  (phrase_demand W _ _ ps ill hold h.phr).mono fun e W' hh => ⟨hh.1, h.grow hh.2.1 hh.2.2⟩
theorem rr_isRead (hd : Wds ps) (h : RRS w W ps ill A B V L M) : Calls Try.prog 36 #[.pointer (some ⟨w.heap.size + 1, 0, none⟩)] W fun e W' => e = .returned (.bool (!ill && ps.isEmpty)) ∧ W' = W :=
  phrase_isRead W _ _ ps ill hd.1 h.phr
end
theorem RRS.drew {w W : World} {ps : List (List UInt8)} {ill : Bool} {A B V L M : Int} (h : RRS w W ps ill A B V L M) : RRS w W.drew ps ill A B V L M :=
  h.grow (h.phr.next ((Below.refl _ _).drew)) (grown_drew (grown_self W _))
theorem below_five5 {w W : World} {v0 v1 v2 v3 v4 : Value} (h : Below w.heap.size w W.drew) : Below w.heap.size w (((((W.setCell ⟨w.heap.size, 0, none⟩ v0).setCell ⟨w.heap.size, 1, none⟩ v1).setCell ⟨w.heap.size, 2, none⟩ v2).setCell ⟨w.heap.size, 3, none⟩ v3).setCell ⟨w.heap.size, 4, none⟩ v4).drew := by
  have h0 : Below w.heap.size w W := ⟨h.os, h.tape, h.output, h.size, h.block⟩
  exact (((((h0.setCell (p := ⟨w.heap.size, 0, none⟩) (Nat.le_refl _) _).setCell (p := ⟨w.heap.size, 1, none⟩) (Nat.le_refl _) _).setCell (p := ⟨w.heap.size, 2, none⟩) (Nat.le_refl _) _).setCell (p := ⟨w.heap.size, 3, none⟩) (Nat.le_refl _) _).setCell (p := ⟨w.heap.size, 4, none⟩) (Nat.le_refl _) _).drew
end Go.Proofs.Ytgegnkboibgbgaa
