/-
Contracts of functions of this seat.
-/
import Derived.Test.YtgegnkboibgbgaaRows
import Derived.WalkKit
import Derived.ProofKit
import Derived.OpenShut
import Derived.Test.YtgegnkboibgbgaaTkn
import Derived.Test.YtgegnkboibgbgaaRpu
import Derived.Test.YtgegnkboibgbgaaVrw
namespace Go.Proofs.Ytgegnkboibgbgaa
open Go.ChangeShapes Go.WideShapes Go.ChangeAt Go.RowKit
set_option linter.unusedVariables false
set_option maxRecDepth 100000
abbrev St : Type := List (List UInt8) × Bool
/-- What each step of reading a rule leaves, and tells. -/
def nmS (L : List (ByteArray × Int)) (s : St) : St := (tkR s.1 s.2, tkI s.1 s.2 || (nmF L (bs (tkW s.1 s.2))).isNone)
def nmV (L : List (ByteArray × Int)) (s : St) : Int := (nmF L (bs (tkW s.1 s.2))).getD 0
def kyS (k : List UInt8) (s : St) : St := (psR k s.1 s.2, s.2 || !psB k s.1 s.2)
def anS (s : St) : St := (apR s.1 s.2, apI s.1 s.2)
def poS (s : St) : St := (tpR s.1 s.2, tpI s.1 s.2)
def rdB (s : St) : Bool := !s.2 && s.1.isEmpty
theorem wds_ap {ps : List (List UInt8)} {ill : Bool} (h : Wds ps) : Wds (apR ps ill) := by
  unfold apR
  split
  · exact h.pass _ _
  · exact h.take _
theorem wds_tp {ps : List (List UInt8)} {ill : Bool} (h : Wds ps) : Wds (tpR ps ill) := by
  unfold tpR
  split
  · exact (h.pass _ _).take _
  · exact h
/-- readRule under way: its answer's room, its phrase, its rule. -/
structure RRU (w W : World) (s : St) (rv : Array Value) : Prop where
  below : Below w.heap.size w W
  box : HoldV W w.heap.size #[.int .i64 0, .int .i64 0, .int .i64 0, .int .i64 0, .int .i64 0, .int .i64 0, .int .i64 0, .int .i64 0, .int .i64 0, .int .i64 0, .int .i64 0, .int .i64 0] 45
  phr : Phr W (w.heap.size + 1) w.heap.size s.1 s.2
  rt : HoldV W (w.heap.size + 1 + 1) rv 45
  wds : Wds s.1
theorem RRU.grow {w W W' : World} {s s' : St} {rv : Array Value} (h : RRU w W s rv) (hp : Phr W' (w.heap.size + 1) w.heap.size s'.1 s'.2) (hg : W.grownBy W' (some (w.heap.size + 1))) (hd : Wds s'.1) : RRU w W' s' rv :=
  ⟨h.below.trans (below_grown (by omega) (by have := h.below.size; omega) hg), (hg.block _ h.box.lt (by simp)).trans h.box, hp, (hg.block _ h.rt.lt (by simp)).trans h.rt, hd⟩
theorem RRU.next {w W W' : World} {s : St} {rv : Array Value} (h : RRU w W s rv) (hb : Below W.heap.size W W') : RRU w W' s rv :=
  ⟨h.below.trans (hb.mono h.below.size), h.box.next hb, h.phr.next hb, h.rt.next hb, h.wds⟩
theorem RRU.set {w W : World} {s : St} {rv : Array Value} (h : RRU w W s rv) (i : Nat) (y : Value) : RRU w (W.setCell ⟨w.heap.size + 1 + 1, i, none⟩ y) s (rv.setIfInBounds i y) :=
  ⟨h.below.trans (below_grown (by omega) (by have := h.below.size; omega) (grown_cell W (w.heap.size + 1 + 1) i _)), h.box.other (by omega) _ _, h.phr.other (by omega) (by omega), h.rt.set i y, h.wds⟩
theorem ru_start (w : World) (a : Option Addr) (ps : List (List UInt8)) (cap : Nat) (hs : ArrS w a ps) (hc : ps.length ≤ cap) (hd : Wds ps) : RRU w (((w.alloc (.cells #[.int .i64 0, .int .i64 0, .int .i64 0, .int .i64 0, .int .i64 0, .int .i64 0, .int .i64 0, .int .i64 0, .int .i64 0, .int .i64 0, .int .i64 0, .int .i64 0] 45)).alloc (.cells #[.slice a ps.length cap, .bool false] phT)).alloc (.cells #[.int .i64 0, .int .i64 0, .int .i64 0, .int .i64 0, .int .i64 0, .int .i64 0, .int .i64 0, .int .i64 0, .int .i64 0, .int .i64 0, .int .i64 0, .int .i64 0] 45)) (ps, false) #[.int .i64 0, .int .i64 0, .int .i64 0, .int .i64 0, .int .i64 0, .int .i64 0, .int .i64 0, .int .i64 0, .int .i64 0, .int .i64 0, .int .i64 0, .int .i64 0] := by
  obtain ⟨hb, h0, h1⟩ := two_allocs w (.cells #[.int .i64 0, .int .i64 0, .int .i64 0, .int .i64 0, .int .i64 0, .int .i64 0, .int .i64 0, .int .i64 0, .int .i64 0, .int .i64 0, .int .i64 0, .int .i64 0] 45) (.cells #[.slice a ps.length cap, .bool false] phT)
  have hz : ((w.alloc (.cells #[.int .i64 0, .int .i64 0, .int .i64 0, .int .i64 0, .int .i64 0, .int .i64 0, .int .i64 0, .int .i64 0, .int .i64 0, .int .i64 0, .int .i64 0, .int .i64 0] 45)).alloc (.cells #[.slice a ps.length cap, .bool false] phT)).heap.size = w.heap.size + 1 + 1 := by simp
  have hb3 := (Below.refl w.heap.size ((w.alloc (.cells #[.int .i64 0, .int .i64 0, .int .i64 0, .int .i64 0, .int .i64 0, .int .i64 0, .int .i64 0, .int .i64 0, .int .i64 0, .int .i64 0, .int .i64 0, .int .i64 0] 45)).alloc (.cells #[.slice a ps.length cap, .bool false] phT))).alloc (by rw [hz]; omega) (.cells #[.int .i64 0, .int .i64 0, .int .i64 0, .int .i64 0, .int .i64 0, .int .i64 0, .int .i64 0, .int .i64 0, .int .i64 0, .int .i64 0, .int .i64 0, .int .i64 0] 45)
  have hb4 := (Below.refl (w.heap.size + 1 + 1) ((w.alloc (.cells #[.int .i64 0, .int .i64 0, .int .i64 0, .int .i64 0, .int .i64 0, .int .i64 0, .int .i64 0, .int .i64 0, .int .i64 0, .int .i64 0, .int .i64 0, .int .i64 0] 45)).alloc (.cells #[.slice a ps.length cap, .bool false] phT))).alloc (Nat.le_of_eq hz.symm) (.cells #[.int .i64 0, .int .i64 0, .int .i64 0, .int .i64 0, .int .i64 0, .int .i64 0, .int .i64 0, .int .i64 0, .int .i64 0, .int .i64 0, .int .i64 0, .int .i64 0] 45)
  refine ⟨hb.trans hb3, (hb4.block _ (by omega)).trans h0, ⟨a, cap, (hb4.block _ (by omega)).trans h1, hs.below (hb.trans hb3) (Nat.le_refl _), hc, ?_⟩, ?_, hd⟩
  · intro h0 b off e
    have hj : 0 < ps.length := List.length_pos_iff.2 h0
    obtain ⟨b', off', e', hb', _⟩ := hs 0 hj
    rw [e] at e'
    cases e'
    exact ⟨by omega, hb'⟩
  · have := heap_alloc_new ((w.alloc (.cells #[.int .i64 0, .int .i64 0, .int .i64 0, .int .i64 0, .int .i64 0, .int .i64 0, .int .i64 0, .int .i64 0, .int .i64 0, .int .i64 0, .int .i64 0, .int .i64 0] 45)).alloc (.cells #[.slice a ps.length cap, .bool false] phT)) (.cells #[.int .i64 0, .int .i64 0, .int .i64 0, .int .i64 0, .int .i64 0, .int .i64 0, .int .i64 0, .int .i64 0, .int .i64 0, .int .i64 0, .int .i64 0, .int .i64 0] 45)
    rw [hz] at this
    exact this
section
variable {w W : World} {s : St} {rv : Array Value}
theorem ru_named (L : List (ByteArray × Int)) (g n : Nat) (hn : L.length = n) (hm : n ≤ 1000) (hL : Lst W g 0 L) (hg : g < W.heap.size) (hgp : g ≠ w.heap.size + 1) (h : RRU w W s rv) : Calls Try.prog 42 #[.pointer (some ⟨w.heap.size + 1, 0, none⟩), .slice (some ⟨g, 0, none⟩) n n] W fun e W' => e = .returned (.int .i64 (nmV L s)) ∧ RRU w W' (nmS L s) rv :=
  (takeNamed_walk W _ _ s.1 s.2 g n L h.wds.1 h.phr hn hm hL hg hgp).mono fun e W' hh => ⟨hh.1, h.grow hh.2.1 hh.2.2 (h.wds.take _)⟩
theorem ru_any (h : RRU w W s rv) : Calls Try.prog 46 #[.pointer (some ⟨w.heap.size + 1, 0, none⟩)] W fun e W' => e = .returned (.agg #[.int .i64 (apA s.1 s.2), .int .i64 (apB s.1 s.2)]) ∧ RRU w W' (anS s) rv :=
  (takeAny_walk W _ _ s.1 s.2 h.wds.1 h.wds.2 h.below.size h.phr).mono fun e W' hh => ⟨hh.1, h.grow hh.2.1 hh.2.2 (wds_ap h.wds)⟩
theorem ru_ports (h : RRU w W s rv) : Calls Try.prog 47 #[.pointer (some ⟨w.heap.size + 1, 0, none⟩)] W fun e W' => e = .returned (.tuple #[.int .i64 (tpL s.1 s.2), .int .i64 (tpH s.1 s.2)]) ∧ RRU w W' (poS s) rv :=
  (takePorts_walk W _ _ s.1 s.2 h.wds.1 h.wds.2 h.phr).mono fun e W' hh => ⟨hh.1, h.grow hh.2.1 hh.2.2 (wds_tp h.wds)⟩
theorem ru_passes (word : List UInt8) (h : RRU w W s rv) : Calls Try.prog 32 #[.pointer (some ⟨w.heap.size + 1, 0, none⟩), .string (bs word)] W fun e W' => e = .returned (.bool (psB word s.1 s.2)) ∧ RRU w W' (psR word s.1 s.2, s.2) rv :=
  (phrase_passes W _ _ s.1 s.2 word h.wds.1 h.phr).mono fun e W' hh => ⟨hh.1, h.grow (s' := (psR word s.1 s.2, s.2)) hh.2.1 hh.2.2 (h.wds.pass _ _)⟩
theorem ru_demand (hold : Bool) (h : RRU w W s rv) : Calls Try.prog 34 #[.pointer (some ⟨w.heap.size + 1, 0, none⟩), .bool hold] W fun e W' => e = .returned (.tuple #[]) ∧ RRU w W' (s.1, s.2 || !hold) rv :=
  (phrase_demand W _ _ s.1 s.2 hold h.phr).mono fun e W' hh => ⟨hh.1, h.grow (s' := (s.1, s.2 || !hold)) hh.2.1 hh.2.2 h.wds⟩
theorem ru_isRead (h : RRU w W s rv) : Calls Try.prog 36 #[.pointer (some ⟨w.heap.size + 1, 0, none⟩)] W fun e W' => e = .returned (.bool (rdB s)) ∧ W' = W :=
  phrase_isRead W _ _ s.1 s.2 h.wds.1 h.phr
end
/-- The states of reading a rule, one behind the other. -/
def rs1 (ps : List (List UInt8)) : St := nmS actL (ps, false)
def rs2 (ps : List (List UInt8)) : St := nmS dirL (rs1 ps)
def rs3 (ps : List (List UInt8)) : St := nmS proL (rs2 ps)
def rs4 (ps : List (List UInt8)) : St := kyS kFrom (rs3 ps)
def rs5 (ps : List (List UInt8)) : St := anS (rs4 ps)
def rs6 (ps : List (List UInt8)) : St := poS (rs5 ps)
def rs7 (ps : List (List UInt8)) : St := kyS kTo (rs6 ps)
def rs8 (ps : List (List UInt8)) : St := anS (rs7 ps)
def rs9 (ps : List (List UInt8)) : St := poS (rs8 ps)
/-- The end of a rule's line, as the program reads it. -/
def prE (A D Q sa sb sl sh da db dl dh : Int) (s : St) : Option (List Int) := if rdB s = true then ruFin A D Q sa sb sl sh da db dl dh 0 else if rdB (nmS staL s) = true then ruFin A D Q sa sb sl sh da db dl dh (nmV staL s) else none
/-- A rule's numbers out of a line's words, as the program reads them. -/
def prP (ps : List (List UInt8)) : Option (List Int) := prE (nmV actL (ps, false)) (nmV dirL (rs1 ps)) (nmV proL (rs2 ps)) (apA (rs4 ps).1 (rs4 ps).2) (apB (rs4 ps).1 (rs4 ps).2) (tpL (rs5 ps).1 (rs5 ps).2) (tpH (rs5 ps).1 (rs5 ps).2) (apA (rs7 ps).1 (rs7 ps).2) (apB (rs7 ps).1 (rs7 ps).2) (tpL (rs8 ps).1 (rs8 ps).2) (tpH (rs8 ps).1 (rs8 ps).2) (rs9 ps)
end Go.Proofs.Ytgegnkboibgbgaa
