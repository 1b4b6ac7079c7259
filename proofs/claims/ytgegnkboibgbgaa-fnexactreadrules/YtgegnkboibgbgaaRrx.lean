/-
Contracts of functions of this seat.
-/
import Derived.Test.YtgegnkboibgbgaaRows
import Derived.WalkKit
import Derived.ProofKit
import Derived.OpenShut
import Derived.Test.YtgegnkboibgbgaaTkx
import Derived.Test.YtgegnkboibgbgaaVxa
import Derived.Test.YtgegnkboibgbgaaVxb
import Derived.Test.YtgegnkboibgbgaaVxc
import Derived.Test.YtgegnkboibgbgaaVxd
import Derived.Test.YtgegnkboibgbgaaRsm
namespace Go.Proofs.Ytgegnkboibgbgaa
open Go.ChangeShapes Go.WideShapes Go.ChangeAt Go.RowKit
set_option linter.unusedVariables false
set_option maxRecDepth 100000
theorem staB_of {S : Int} (h : inB S 0 4 = true) (hz : ¬ S = 0) : inB S 1 4 = true := by
  have := inB_iff.1 h
  exact inB_iff.2 (by omega)
theorem staB_no {S : Int} (h : inB S 1 4 = false) (hz : ¬ S = 0) : inB S 0 4 = false := by
  cases e : inB S 0 4 with
  | false => rfl
  | true => rw [staB_of e hz] at h; cases h
theorem protB_set {P : Int} {q : Bool} (h : decide (P = 0 ∨ P = 1 ∨ P = 6 ∨ P = 17) = false) : protB P q = false := by
  have := of_decide_eq_false h
  unfold protB
  rw [decide_eq_false (by omega), decide_eq_false (by omega), decide_eq_false (by omega), decide_eq_false (by omega)]
  rfl
theorem protB_in {P : Int} {q : Bool} (h : protB P q = true) : decide (P = 0 ∨ P = 1 ∨ P = 6 ∨ P = 17) = true := by
  cases e : decide (P = 0 ∨ P = 1 ∨ P = 6 ∨ P = 17) with
  | true => rfl
  | false => rw [protB_set e] at h; cases h
theorem protB_has {P : Int} {q : Bool} (h : decide (P = 6 ∨ P = 17) = true) : protB P q = true := by
  rcases of_decide_eq_true h with rfl | rfl <;> rfl
theorem protB_not {P : Int} {q : Bool} (h : decide (P = 0 ∨ P = 1 ∨ P = 6 ∨ P = 17) = true) (h2 : decide (P = 6 ∨ P = 17) = false) : protB P q = q := by
  have h3 := of_decide_eq_true h
  have h4 := of_decide_eq_false h2
  have : P = 0 ∨ P = 1 := by omega
  rcases this with rfl | rfl <;> rfl
theorem validRule_walk (A D P sa sb sl sh da db dl dh S : Int) (w : World) : Calls Try.prog 49 #[.agg #[.int .i64 A, .int .i64 D, .int .i64 P, .int .i64 sa, .int .i64 sb, .int .i64 sl, .int .i64 sh, .int .i64 da, .int .i64 db, .int .i64 dl, .int .i64 dh, .int .i64 S]] w fun e w' => e = .returned (.bool (ruOK A D P sa sb sl sh da db dl dh S)) ∧ Below w.heap.size w w' := by
  cases hA : inB A 1 3 with
  | false => rw [show ruOK A D P sa sb sl sh da db dl dh S = false by unfold ruOK; rw [hA]; simp]; exact validRule_Af A D P sa sb sl sh da db dl dh S w hA
  | true =>
  cases hD : inB D 1 3 with
  | false => rw [show ruOK A D P sa sb sl sh da db dl dh S = false by unfold ruOK; rw [hD]; simp]; exact validRule_Df A D P sa sb sl sh da db dl dh S w hA hD
  | true =>
  cases hP : decide (P = 0 ∨ P = 1 ∨ P = 6 ∨ P = 17) with
  | false => rw [show ruOK A D P sa sb sl sh da db dl dh S = false by unfold ruOK; rw [protB_set hP]; simp]; exact validRule_Pf A D P sa sb sl sh da db dl dh S w hA hD hP
  | true =>
  by_cases hz : S = 0
  · subst hz
    cases hp : prefB sa sb with
    | false => rw [show ruOK A D P sa sb sl sh da db dl dh 0 = false by unfold ruOK; rw [hp]; simp]; exact validRule_pz A D P sa sb sl sh da db dl dh 0 w hA hD hP hp
    | true =>
    cases hs : portB sl sh with
    | false => rw [show ruOK A D P sa sb sl sh da db dl dh 0 = false by unfold ruOK; rw [hs]; simp]; exact validRule_oz A D P sa sb sl sh da db dl dh 0 w hA hD hP hp hs
    | true =>
    cases hq : prefB da db with
    | false => rw [show ruOK A D P sa sb sl sh da db dl dh 0 = false by unfold ruOK; rw [hq]; simp]; exact validRule_qz A D P sa sb sl sh da db dl dh 0 w hA hD hP hp hs hq
    | true =>
    cases hd : portB dl dh with
    | false => rw [show ruOK A D P sa sb sl sh da db dl dh 0 = false by unfold ruOK; rw [hd]; simp]; exact validRule_tz A D P sa sb sl sh da db dl dh 0 w hA hD hP hp hs hq hd
    | true =>
    cases hh : decide (P = 6 ∨ P = 17) with
    | true =>
      rw [show ruOK A D P sa sb sl sh da db dl dh 0 = true by unfold ruOK; rw [hA, hD, (show inB 0 0 4 = true from rfl), hp, hs, hq, hd, protB_has hh]; rfl]
      exact validRule_hz A D P sa sb sl sh da db dl dh 0 w hA hD hP hp hs hq hd hh
    | false =>
      rw [show ruOK A D P sa sb sl sh da db dl dh 0 = (allP sl sh && allP dl dh) by unfold ruOK; rw [hA, hD, (show inB 0 0 4 = true from rfl), hp, hs, hq, hd, protB_not hP hh]; rfl]
      exact validRule_xz A D P sa sb sl sh da db dl dh 0 w hA hD hP hp hs hq hd hh
  · have hSz : (S == 0) = false := beq_eq_false_iff_ne.2 hz
    cases hS : inB S 1 4 with
    | false => rw [show ruOK A D P sa sb sl sh da db dl dh S = false by unfold ruOK; rw [staB_no hS hz]; simp]; exact validRule_Sf A D P sa sb sl sh da db dl dh S w hA hD hP hS hSz
    | true =>
    have hS4 : inB S 0 4 = true := inB_iff.2 (by have := inB_iff.1 hS; omega)
    cases hp : prefB sa sb with
    | false => rw [show ruOK A D P sa sb sl sh da db dl dh S = false by unfold ruOK; rw [hp]; simp]; exact validRule_ps A D P sa sb sl sh da db dl dh S w hA hD hP hS hp hSz
    | true =>
    cases hs : portB sl sh with
    | false => rw [show ruOK A D P sa sb sl sh da db dl dh S = false by unfold ruOK; rw [hs]; simp]; exact validRule_os A D P sa sb sl sh da db dl dh S w hA hD hP hS hp hs hSz
    | true =>
    cases hq : prefB da db with
    | false => rw [show ruOK A D P sa sb sl sh da db dl dh S = false by unfold ruOK; rw [hq]; simp]; exact validRule_qs A D P sa sb sl sh da db dl dh S w hA hD hP hS hp hs hq hSz
    | true =>
    cases hd : portB dl dh with
    | false => rw [show ruOK A D P sa sb sl sh da db dl dh S = false by unfold ruOK; rw [hd]; simp]; exact validRule_ts A D P sa sb sl sh da db dl dh S w hA hD hP hS hp hs hq hd hSz
    | true =>
    cases hh : decide (P = 6 ∨ P = 17) with
    | true =>
      rw [show ruOK A D P sa sb sl sh da db dl dh S = true by unfold ruOK; rw [hA, hD, hS4, hp, hs, hq, hd, protB_has hh]; rfl]
      exact validRule_hs A D P sa sb sl sh da db dl dh S w hA hD hP hS hp hs hq hd hh hSz
    | false =>
      rw [show ruOK A D P sa sb sl sh da db dl dh S = (allP sl sh && allP dl dh) by unfold ruOK; rw [hA, hD, hS4, hp, hs, hq, hd, protB_not hP hh]; rfl]
      exact validRule_xs A D P sa sb sl sh da db dl dh S w hA hD hP hS hp hs hq hd hh hSz

abbrev St : Type := List (List UInt8) × Bool
/-- What each step of reading a rule leaves, and tells. -/
def nmS (L : List (ByteArray × Int)) (s : St) : St := (tkR s.1 s.2, tkI s.1 s.2 || (nmF L (bs (tkW s.1 s.2))).isNone)
def nmV (L : List (ByteArray × Int)) (s : St) : Int := (nmF L (bs (tkW s.1 s.2))).getD 0
def kyS (k : List UInt8) (s : St) : St := (psR k s.1 s.2, s.2 || !psB k s.1 s.2)
def anS (s : St) : St := (apR s.1 s.2, apI s.1 s.2)
def poS (s : St) : St := (tpR s.1 s.2, tpI s.1 s.2)
def rdB (s : St) : Bool := !s.2 && s.1.isEmpty
theorem wds_ap {ps : List (List UInt8)} {ill : Bool} (h : Wds ps) : Wds (apR ps ill) := by
  unfold apR
  split
  · exact h.pass _ _
  · exact h.take _
theorem wds_tp {ps : List (List UInt8)} {ill : Bool} (h : Wds ps) : Wds (tpR ps ill) := by
  unfold tpR
  split
  · exact (h.pass _ _).take _
  · exact h
/-- readRule under way: its answer's room, its phrase, its rule. -/
structure RRU (w W : World) (s : St) (rv : Array Value) : Prop where
  below : Below w.heap.size w W
  box : HoldV W w.heap.size #[.int .i64 0, .int .i64 0, .int .i64 0, .int .i64 0, .int .i64 0, .int .i64 0, .int .i64 0, .int .i64 0, .int .i64 0, .int .i64 0, .int .i64 0, .int .i64 0] 45
  phr : Phr W (w.heap.size + 1) w.heap.size s.1 s.2
  rt : HoldV W (w.heap.size + 1 + 1) rv 45
  wds : Wds s.1
theorem RRU.grow {w W W' : World} {s s' : St} {rv : Array Value} (h : RRU w W s rv) (hp : Phr W' (w.heap.size + 1) w.heap.size s'.1 s'.2) (hg : W.grownBy W' (some (w.heap.size + 1))) (hd : Wds s'.1) : RRU w W' s' rv :=
  ⟨h.below.trans (below_grown (by omega) (by have := h.below.size; omega) hg), (hg.block _ h.box.lt (by simp)).trans h.box, hp, (hg.block _ h.rt.lt (by simp)).trans h.rt, hd⟩
theorem RRU.next {w W W' : World} {s : St} {rv : Array Value} (h : RRU w W s rv) (hb : Below W.heap.size W W') : RRU w W' s rv :=
  ⟨h.below.trans (hb.mono h.below.size), h.box.next hb, h.phr.next hb, h.rt.next hb, h.wds⟩
theorem RRU.set {w W : World} {s : St} {rv : Array Value} (h : RRU w W s rv) (i : Nat) (y : Value) : RRU w (W.setCell ⟨w.heap.size + 1 + 1, i, none⟩ y) s (rv.setIfInBounds i y) :=
  ⟨h.below.trans (below_grown (by omega) (by have := h.below.size; omega) (grown_cell W (w.heap.size + 1 + 1) i _)), h.box.other (by omega) _ _, h.phr.other (by omega) (by omega), h.rt.set i y, h.wds⟩
theorem ru_start (w : World) (a : Option Addr) (ps : List (List UInt8)) (cap : Nat) (hs : ArrS w a ps) (hc : ps.length ≤ cap) (hd : Wds ps) : RRU w (((w.alloc (.cells #[.int .i64 0, .int .i64 0, .int .i64 0, .int .i64 0, .int .i64 0, .int .i64 0, .int .i64 0, .int .i64 0, .int .i64 0, .int .i64 0, .int .i64 0, .int .i64 0] 45)).alloc (.cells #[.slice a ps.length cap, .bool false] phT)).alloc (.cells #[.int .i64 0, .int .i64 0, .int .i64 0, .int .i64 0, .int .i64 0, .int .i64 0, .int .i64 0, .int .i64 0, .int .i64 0, .int .i64 0, .int .i64 0, .int .i64 0] 45)) (ps, false) #[.int .i64 0, .int .i64 0, .int .i64 0, .int .i64 0, .int .i64 0, .int .i64 0, .int .i64 0, .int .i64 0, .int .i64 0, .int .i64 0, .int .i64 0, .int .i64 0] := by
  obtain ⟨hb, h0, h1⟩ := two_allocs w (.cells #[.int .i64 0, .int .i64 0, .int .i64 0, .int .i64 0, .int .i64 0, .int .i64 0, .int .i64 0, .int .i64 0, .int .i64 0, .int .i64 0, .int .i64 0, .int .i64 0] 45) (.cells #[.slice a ps.length cap, .bool false] phT)
  have hz : ((w.alloc (.cells #[.int .i64 0, .int .i64 0, .int .i64 0, .int .i64 0, .int .i64 0, .int .i64 0, .int .i64 0, .int .i64 0, .int .i64 0, .int .i64 0, .int .i64 0, .int .i64 0] 45)).alloc (.cells #[.slice a ps.length cap, .bool false] phT)).heap.size = w.heap.size + 1 + 1 := by simp
  have hb3 := (Below.refl w.heap.size ((w.alloc (.cells #[.int .i64 0, .int .i64 0, .int .i64 0, .int .i64 0, .int .i64 0, .int .i64 0, .int .i64 0, .int .i64 0, .int .i64 0, .int .i64 0, .int .i64 0, .int .i64 0] 45)).alloc (.cells #[.slice a ps.length cap, .bool false] phT))).alloc (by rw [hz]; omega) (.cells #[.int .i64 0, .int .i64 0, .int .i64 0, .int .i64 0, .int .i64 0, .int .i64 0, .int .i64 0, .int .i64 0, .int .i64 0, .int .i64 0, .int .i64 0, .int .i64 0] 45)
  have hb4 := (Below.refl (w.heap.size + 1 + 1) ((w.alloc (.cells #[.int .i64 0, .int .i64 0, .int .i64 0, .int .i64 0, .int .i64 0, .int .i64 0, .int .i64 0, .int .i64 0, .int .i64 0, .int .i64 0, .int .i64 0, .int .i64 0] 45)).alloc (.cells #[.slice a ps.length cap, .bool false] phT))).alloc (Nat.le_of_eq hz.symm) (.cells #[.int .i64 0, .int .i64 0, .int .i64 0, .int .i64 0, .int .i64 0, .int .i64 0, .int .i64 0, .int .i64 0, .int .i64 0, .int .i64 0, .int .i64 0, .int .i64 0] 45)
  refine ⟨hb.trans hb3, (hb4.block _ (by omega)).trans h0, ⟨a, cap, (hb4.block _ (by omega)).trans h1, hs.below (hb.trans hb3) (Nat.le_refl _), hc, ?_⟩, ?_, hd⟩
  · intro h0 b off e
    have hj : 0 < ps.length := List.length_pos_iff.2 h0
    obtain ⟨b', off', e', hb', _⟩ := hs 0 hj
    rw [e] at e'
    cases e'
    exact ⟨by omega, hb'⟩
  · have := heap_alloc_new ((w.alloc (.cells #[.int .i64 0, .int .i64 0, .int .i64 0, .int .i64 0, .int .i64 0, .int .i64 0, .int .i64 0, .int .i64 0, .int .i64 0, .int .i64 0, .int .i64 0, .int .i64 0] 45)).alloc (.cells #[.slice a ps.length cap, .bool false] phT)) (.cells #[.int .i64 0, .int .i64 0, .int .i64 0, .int .i64 0, .int .i64 0, .int .i64 0, .int .i64 0, .int .i64 0, .int .i64 0, .int .i64 0, .int .i64 0, .int .i64 0] 45)
    rw [hz] at this
    exact this
section
variable {w W : World} {s : St} {rv : Array Value}
theorem ru_named (L : List (ByteArray × Int)) (g n : Nat) (hn : L.length = n) (hm : n ≤ 1000) (hL : Lst W g 0 L) (hg : g < W.heap.size) (hgp : g ≠ w.heap.size + 1) (h : RRU w W s rv) : Calls Try.prog 42 #[.pointer (some ⟨w.heap.size + 1, 0, none⟩), .slice (some ⟨g, 0, none⟩) n n] W fun e W' => e = .returned (.int .i64 (nmV L s)) ∧ RRU w W' (nmS L s) rv :=
  (takeNamed_walk W _ _ s.1 s.2 g n L h.wds.1 h.phr hn hm hL hg hgp).mono fun e W' hh => ⟨hh.1, h.grow hh.2.1 hh.2.2 (h.wds.take _)⟩
theorem ru_any (h : RRU w W s rv) : Calls Try.prog 46 #[.pointer (some ⟨w.heap.size + 1, 0, none⟩)] W fun e W' => e = .returned (.agg #[.int .i64 (apA s.1 s.2), .int .i64 (apB s.1 s.2)]) ∧ RRU w W' (anS s) rv :=
  (takeAny_walk W _ _ s.1 s.2 h.wds.1 h.wds.2 h.below.size h.phr).mono fun e W' hh => ⟨hh.1, h.grow hh.2.1 hh.2.2 (wds_ap h.wds)⟩
theorem ru_ports (h : RRU w W s rv) : Calls Try.prog 47 #[.pointer (some ⟨w.heap.size + 1, 0, none⟩)] W fun e W' => e = .returned (.tuple #[.int .i64 (tpL s.1 s.2), .int .i64 (tpH s.1 s.2)]) ∧ RRU w W' (poS s) rv :=
  (takePorts_walk W _ _ s.1 s.2 h.wds.1 h.wds.2 h.phr).mono fun e W' hh => ⟨hh.1, h.grow hh.2.1 hh.2.2 (wds_tp h.wds)⟩
theorem ru_passes (word : List UInt8) (h : RRU w W s rv) : Calls Try.prog 32 #[.pointer (some ⟨w.heap.size + 1, 0, none⟩), .string (bs word)] W fun e W' => e = .returned (.bool (psB word s.1 s.2)) ∧ RRU w W' (psR word s.1 s.2, s.2) rv :=
  (phrase_passes W _ _ s.1 s.2 word h.wds.1 h.phr).mono fun e W' hh => ⟨hh.1, h.grow (s' := (psR word s.1 s.2, s.2)) hh.2.1 hh.2.2 (h.wds.pass _ _)⟩
theorem ru_demand (hold : Bool) (h : RRU w W s rv) : Calls Try.prog 34 #[.pointer (some ⟨w.heap.size + 1, 0, none⟩), .bool hold] W fun e W' => e = .returned (.tuple #[]) ∧ RRU w W' (s.1, s.2 || !hold) rv :=
  (phrase_demand W _ _ s.1 s.2 hold h.phr).mono fun e W' hh => ⟨hh.1, h.grow (s' := (s.1, s.2 || !hold)) hh.2.1 hh.2.2 h.wds⟩
theorem ru_isRead (h : RRU w W s rv) : Calls Try.prog 36 #[.pointer (some ⟨w.heap.size + 1, 0, none⟩)] W fun e W' => e = .returned (.bool (rdB s)) ∧ W' = W :=
  phrase_isRead W _ _ s.1 s.2 h.wds.1 h.phr
end
/-- The states of reading a rule, one behind the other. -/
def rs1 (ps : List (List UInt8)) : St := nmS actL (ps, false)
def rs2 (ps : List (List UInt8)) : St := nmS dirL (rs1 ps)
def rs3 (ps : List (List UInt8)) : St := nmS proL (rs2 ps)
def rs4 (ps : List (List UInt8)) : St := kyS kFrom (rs3 ps)
def rs5 (ps : List (List UInt8)) : St := anS (rs4 ps)
def rs6 (ps : List (List UInt8)) : St := poS (rs5 ps)
def rs7 (ps : List (List UInt8)) : St := kyS kTo (rs6 ps)
def rs8 (ps : List (List UInt8)) : St := anS (rs7 ps)
def rs9 (ps : List (List UInt8)) : St := poS (rs8 ps)
/-- The end of a rule's line, as the program reads it. -/
def prE (A D Q sa sb sl sh da db dl dh : Int) (s : St) : Option (List Int) := if rdB s = true then ruFin A D Q sa sb sl sh da db dl dh 0 else if rdB (nmS staL s) = true then ruFin A D Q sa sb sl sh da db dl dh (nmV staL s) else none
/-- A rule's numbers out of a line's words, as the program reads them. -/
def prP (ps : List (List UInt8)) : Option (List Int) := prE (nmV actL (ps, false)) (nmV dirL (rs1 ps)) (nmV proL (rs2 ps)) (apA (rs4 ps).1 (rs4 ps).2) (apB (rs4 ps).1 (rs4 ps).2) (tpL (rs5 ps).1 (rs5 ps).2) (tpH (rs5 ps).1 (rs5 ps).2) (apA (rs7 ps).1 (rs7 ps).2) (apB (rs7 ps).1 (rs7 ps).2) (tpL (rs8 ps).1 (rs8 ps).2) (tpH (rs8 ps).1 (rs8 ps).2) (rs9 ps)

theorem HoldV.drewu {W : World} {H : Nat} {vs : Array Value} {t : Nat} (h : HoldV W H vs t) : HoldV W.drew H vs t := h
abbrev LSr (w w' : World) (x0 x1 x2 x3 x4 x5 x6 x7 x8 x9 x10 x11 : Int) : Prop := w'.cell? ⟨w.heap.size + 1 + 1, 0, none⟩ = some (.int .i64 x0) ∧ w'.cell? ⟨w.heap.size + 1 + 1, 1, none⟩ = some (.int .i64 x1) ∧ w'.cell? ⟨w.heap.size + 1 + 1, 2, none⟩ = some (.int .i64 x2) ∧ w'.cell? ⟨w.heap.size + 1 + 1, 3, none⟩ = some (.int .i64 x3) ∧ w'.cell? ⟨w.heap.size + 1 + 1, 4, none⟩ = some (.int .i64 x4) ∧ w'.cell? ⟨w.heap.size + 1 + 1, 5, none⟩ = some (.int .i64 x5) ∧ w'.cell? ⟨w.heap.size + 1 + 1, 6, none⟩ = some (.int .i64 x6) ∧ w'.cell? ⟨w.heap.size + 1 + 1, 7, none⟩ = some (.int .i64 x7) ∧ w'.cell? ⟨w.heap.size + 1 + 1, 8, none⟩ = some (.int .i64 x8) ∧ w'.cell? ⟨w.heap.size + 1 + 1, 9, none⟩ = some (.int .i64 x9) ∧ w'.cell? ⟨w.heap.size + 1 + 1, 10, none⟩ = some (.int .i64 x10) ∧ w'.cell? ⟨w.heap.size + 1 + 1, 11, none⟩ = some (.int .i64 x11)
theorem LSr.of {w w' : World} {x0 x1 x2 x3 x4 x5 x6 x7 x8 x9 x10 x11 : Int} (h2 : HoldV w' (w.heap.size + 1 + 1) #[.int .i64 x0, .int .i64 x1, .int .i64 x2, .int .i64 x3, .int .i64 x4, .int .i64 x5, .int .i64 x6, .int .i64 x7, .int .i64 x8, .int .i64 x9, .int .i64 x10, .int .i64 x11] 45) : LSr w w' x0 x1 x2 x3 x4 x5 x6 x7 x8 x9 x10 x11 := ⟨h2.cell 0 _ rfl, h2.cell 1 _ rfl, h2.cell 2 _ rfl, h2.cell 3 _ rfl, h2.cell 4 _ rfl, h2.cell 5 _ rfl, h2.cell 6 _ rfl, h2.cell 7 _ rfl, h2.cell 8 _ rfl, h2.cell 9 _ rfl, h2.cell 10 _ rfl, h2.cell 11 _ rfl⟩
theorem RRU.fin {w W : World} {s : St} {rv : Array Value} (h : RRU w W s rv) {v0 v1 v2 v3 v4 v5 v6 v7 v8 v9 v10 v11 : Value} : Below w.heap.size w (((((((((((((W.setCell ⟨w.heap.size, 0, none⟩ v0).setCell ⟨w.heap.size, 1, none⟩ v1).setCell ⟨w.heap.size, 2, none⟩ v2).setCell ⟨w.heap.size, 3, none⟩ v3).setCell ⟨w.heap.size, 4, none⟩ v4).setCell ⟨w.heap.size, 5, none⟩ v5).setCell ⟨w.heap.size, 6, none⟩ v6).setCell ⟨w.heap.size, 7, none⟩ v7).setCell ⟨w.heap.size, 8, none⟩ v8).setCell ⟨w.heap.size, 9, none⟩ v9).setCell ⟨w.heap.size, 10, none⟩ v10).setCell ⟨w.heap.size, 11, none⟩ v11)) :=
  ((((((((((((h.below.setCell (p := ⟨w.heap.size, 0, none⟩) (Nat.le_refl _) _).setCell (p := ⟨w.heap.size, 1, none⟩) (Nat.le_refl _) _).setCell (p := ⟨w.heap.size, 2, none⟩) (Nat.le_refl _) _).setCell (p := ⟨w.heap.size, 3, none⟩) (Nat.le_refl _) _).setCell (p := ⟨w.heap.size, 4, none⟩) (Nat.le_refl _) _).setCell (p := ⟨w.heap.size, 5, none⟩) (Nat.le_refl _) _).setCell (p := ⟨w.heap.size, 6, none⟩) (Nat.le_refl _) _).setCell (p := ⟨w.heap.size, 7, none⟩) (Nat.le_refl _) _).setCell (p := ⟨w.heap.size, 8, none⟩) (Nat.le_refl _) _).setCell (p := ⟨w.heap.size, 9, none⟩) (Nat.le_refl _) _).setCell (p := ⟨w.heap.size, 10, none⟩) (Nat.le_refl _) _).setCell (p := ⟨w.heap.size, 11, none⟩) (Nat.le_refl _) _)
theorem RRU.hold_fin {w W : World} {s : St} {rv : Array Value} (h : RRU w W s rv) {v0 v1 v2 v3 v4 v5 v6 v7 v8 v9 v10 v11 : Value} : HoldV (((((((((((((W.setCell ⟨w.heap.size, 0, none⟩ v0).setCell ⟨w.heap.size, 1, none⟩ v1).setCell ⟨w.heap.size, 2, none⟩ v2).setCell ⟨w.heap.size, 3, none⟩ v3).setCell ⟨w.heap.size, 4, none⟩ v4).setCell ⟨w.heap.size, 5, none⟩ v5).setCell ⟨w.heap.size, 6, none⟩ v6).setCell ⟨w.heap.size, 7, none⟩ v7).setCell ⟨w.heap.size, 8, none⟩ v8).setCell ⟨w.heap.size, 9, none⟩ v9).setCell ⟨w.heap.size, 10, none⟩ v10).setCell ⟨w.heap.size, 11, none⟩ v11)) (w.heap.size + 1 + 1) rv 45 := by
  have far : ∀ {W : World} (i : Nat) (v : Value), HoldV W (w.heap.size + 1 + 1) rv 45 → HoldV (W.setCell ⟨w.heap.size, i, none⟩ v) (w.heap.size + 1 + 1) rv 45 := fun i v h => (heap_setCell_other _ ⟨w.heap.size, i, none⟩ (w.heap.size + 1 + 1) v (by show w.heap.size + 1 + 1 ≠ w.heap.size; omega)).trans h
  exact (far 11 v11 (far 10 v10 (far 9 v9 (far 8 v8 (far 7 v7 (far 6 v6 (far 5 v5 (far 4 v4 (far 3 v3 (far 2 v2 (far 1 v1 (far 0 v0 h.rt))))))))))))
set_option maxHeartbeats 8000000 in
theorem readRule_walk0 (w : World) (a : Option Addr) (ps : List (List UInt8)) (cap : Nat) (hd : Wds ps) (hs : ArrS w a ps) (hc : ps.length ≤ cap) :
    Calls Try.prog 22 #[.slice a ps.length cap] w fun e w' => ∃ (y0 y1 y2 y3 y4 y5 y6 y7 y8 y9 y10 y11 : Int) (okq : Bool), e = .returned (.tuple #[.agg #[.int .i64 y0, .int .i64 y1, .int .i64 y2, .int .i64 y3, .int .i64 y4, .int .i64 y5, .int .i64 y6, .int .i64 y7, .int .i64 y8, .int .i64 y9, .int .i64 y10, .int .i64 y11], .bool okq]) ∧ (prP ps = if okq = true then some [y0, y1, y2, y3, y4, y5, y6, y7, y8, y9, y10, y11] else none) ∧ Below w.heap.size w w' := by
  have H0 := hide (ru_start w a ps cap hs hc hd)
  have HPR : Hid (prP ps = prE (nmV actL (ps, false)) (nmV dirL (rs1 ps)) (nmV proL (rs2 ps)) (apA (rs4 ps).1 (rs4 ps).2) (apB (rs4 ps).1 (rs4 ps).2) (tpL (rs5 ps).1 (rs5 ps).2) (tpH (rs5 ps).1 (rs5 ps).2) (apA (rs7 ps).1 (rs7 ps).2) (apB (rs7 ps).1 (rs7 ps).2) (tpL (rs8 ps).1 (rs8 ps).2) (tpH (rs8 ps).1 (rs8 ps).2) (rs9 ps)) := hide rfl
  generalize prP ps = PP at *
  have EE : Hid (rs2 ps = nmS dirL (rs1 ps) ∧ rs3 ps = nmS proL (rs2 ps) ∧ rs4 ps = kyS kFrom (rs3 ps) ∧ rs5 ps = anS (rs4 ps) ∧ rs6 ps = poS (rs5 ps) ∧ rs7 ps = kyS kTo (rs6 ps) ∧ rs8 ps = anS (rs7 ps) ∧ rs9 ps = poS (rs8 ps)) := hide ⟨rfl, rfl, rfl, rfl, rfl, rfl, rfl, rfl⟩
  have E1 : Hid (rs1 ps = nmS actL (ps, false)) := hide rfl
  generalize rs1 ps = s1 at *
  generalize rs2 ps = s2 at *
  generalize rs3 ps = s3 at *
  generalize rs4 ps = s4 at *
  generalize rs5 ps = s5 at *
  generalize rs6 ps = s6 at *
  generalize rs7 ps = s7 at *
  generalize rs8 ps = s8 at *
  generalize rs9 ps = s9 at *
  have hz0 : w.heap.size + 1 < (((w.alloc (.cells #[.int .i64 0, .int .i64 0, .int .i64 0, .int .i64 0, .int .i64 0, .int .i64 0, .int .i64 0, .int .i64 0, .int .i64 0, .int .i64 0, .int .i64 0, .int .i64 0] 45)).alloc (.cells #[.slice a ps.length cap, .bool false] phT)).alloc (.cells #[.int .i64 0, .int .i64 0, .int .i64 0, .int .i64 0, .int .i64 0, .int .i64 0, .int .i64 0, .int .i64 0, .int .i64 0, .int .i64 0, .int .i64 0, .int .i64 0] 45)).heap.size := H0.out.phr.lt
  clear hd hs hc
  go_enter Try.func22, Try.ntmps22
  go_wp2_with fail
  generalize (((w.alloc (.cells #[.int .i64 0, .int .i64 0, .int .i64 0, .int .i64 0, .int .i64 0, .int .i64 0, .int .i64 0, .int .i64 0, .int .i64 0, .int .i64 0, .int .i64 0, .int .i64 0] 45)).alloc (.cells #[.slice a ps.length cap, .bool false] phT)).alloc (.cells #[.int .i64 0, .int .i64 0, .int .i64 0, .int .i64 0, .int .i64 0, .int .i64 0, .int .i64 0, .int .i64 0, .int .i64 0, .int .i64 0, .int .i64 0, .int .i64 0] 45)) = W0 at *
  refine (actionWords_walk W0).mono ?_
  rintro e u0 ⟨rfl, hLn⟩
  have hx : w.heap.size + 1 < W0.heap.size := H0.out.phr.lt
  have C := hide (ru_named actL W0.heap.size 3 rfl (by omega) hLn.1 hLn.2.1 (by omega) (H0.out.next hLn.2.2))
  clear hLn hx
  go_wp2_with fail
  refine C.out.mono ?_
  rintro e v0 ⟨rfl, h⟩
  generalize nmV actL (ps, false) = A at *
  rw [← E1.out] at h
  have c0 := h.rt.cell 0 (.int .i64 0) rfl
  have cf := h.rt.frozen
  have H1 : Hid (RRU w (v0.setCell ⟨w.heap.size + 1 + 1, 0, none⟩ (.int .i64 A)) s1 #[.int .i64 A, .int .i64 0, .int .i64 0, .int .i64 0, .int .i64 0, .int .i64 0, .int .i64 0, .int .i64 0, .int .i64 0, .int .i64 0, .int .i64 0, .int .i64 0]) := hide (h.set 0 (.int .i64 A))
  clear h C H0
  go_wp2_with fail
  generalize v0.setCell ⟨w.heap.size + 1 + 1, 0, none⟩ (.int .i64 A) = W1 at *
  clear c0 cf
  refine (dirWords_walk W1).mono ?_
  rintro e u1 ⟨rfl, hLn⟩
  have hx : w.heap.size + 1 < W1.heap.size := H1.out.phr.lt
  have C := hide (ru_named dirL W1.heap.size 3 rfl (by omega) hLn.1 hLn.2.1 (by omega) (H1.out.next hLn.2.2))
  clear hLn hx
  go_wp2_with fail
  refine C.out.mono ?_
  rintro e v1 ⟨rfl, h⟩
  generalize nmV dirL s1 = D at *
  rw [← EE.out.1] at h
  have c0 := h.rt.cell 1 (.int .i64 0) rfl
  have cf := h.rt.frozen
  have H2 : Hid (RRU w (v1.setCell ⟨w.heap.size + 1 + 1, 1, none⟩ (.int .i64 D)) s2 #[.int .i64 A, .int .i64 D, .int .i64 0, .int .i64 0, .int .i64 0, .int .i64 0, .int .i64 0, .int .i64 0, .int .i64 0, .int .i64 0, .int .i64 0, .int .i64 0]) := hide (h.set 1 (.int .i64 D))
  clear h C H1
  go_wp2_with fail
  generalize v1.setCell ⟨w.heap.size + 1 + 1, 1, none⟩ (.int .i64 D) = W2 at *
  clear c0 cf
  refine (protoWords_walk W2).mono ?_
  rintro e u2 ⟨rfl, hLn⟩
  have hx : w.heap.size + 1 < W2.heap.size := H2.out.phr.lt
  have C := hide (ru_named proL W2.heap.size 4 rfl (by omega) hLn.1 hLn.2.1 (by omega) (H2.out.next hLn.2.2))
  clear hLn hx
  go_wp2_with fail
  refine C.out.mono ?_
  rintro e v2 ⟨rfl, h⟩
  generalize nmV proL s2 = Q at *
  rw [← EE.out.2.1] at h
  have c0 := h.rt.cell 2 (.int .i64 0) rfl
  have cf := h.rt.frozen
  have H3 : Hid (RRU w (v2.setCell ⟨w.heap.size + 1 + 1, 2, none⟩ (.int .i64 Q)) s3 #[.int .i64 A, .int .i64 D, .int .i64 Q, .int .i64 0, .int .i64 0, .int .i64 0, .int .i64 0, .int .i64 0, .int .i64 0, .int .i64 0, .int .i64 0, .int .i64 0]) := hide (h.set 2 (.int .i64 Q))
  clear h C H2
  go_wp2_with fail
  generalize v2.setCell ⟨w.heap.size + 1 + 1, 2, none⟩ (.int .i64 Q) = W3 at *
  clear c0 cf
  have C := hide (ru_passes kFrom H3.out)
  refine C.out.mono ?_
  rintro e v3 ⟨rfl, h⟩
  have C2 := hide (ru_demand (psB kFrom s3.1 s3.2) h)
  clear h C H3
  go_wp2_with fail
  refine C2.out.mono ?_
  rintro e W4 ⟨rfl, h⟩
  have H4 : Hid (RRU w W4 s4 #[.int .i64 A, .int .i64 D, .int .i64 Q, .int .i64 0, .int .i64 0, .int .i64 0, .int .i64 0, .int .i64 0, .int .i64 0, .int .i64 0, .int .i64 0, .int .i64 0]) := hide (by rw [EE.out.2.2.1]; exact h)
  clear h C2
  go_wp2_with fail
  have C := hide (ru_any H4.out)
  refine C.out.mono ?_
  rintro e v4 ⟨rfl, h⟩
  generalize apA s4.1 s4.2 = sa at *
  generalize apB s4.1 s4.2 = sb at *
  rw [← EE.out.2.2.2.1] at h
  have c0 := h.rt.cell 3 (.int .i64 0) rfl
  have c1 := h.rt.cell 4 (.int .i64 0) rfl
  have cf := h.rt.frozen
  have H5 : Hid (RRU w ((v4.setCell ⟨w.heap.size + 1 + 1, 3, none⟩ (.int .i64 sa)).setCell ⟨w.heap.size + 1 + 1, 4, none⟩ (.int .i64 sb)) s5 #[.int .i64 A, .int .i64 D, .int .i64 Q, .int .i64 sa, .int .i64 sb, .int .i64 0, .int .i64 0, .int .i64 0, .int .i64 0, .int .i64 0, .int .i64 0, .int .i64 0]) := hide ((h.set 3 (.int .i64 sa)).set 4 (.int .i64 sb))
  clear h C H4
  go_wp2_with fail
  generalize (v4.setCell ⟨w.heap.size + 1 + 1, 3, none⟩ (.int .i64 sa)).setCell ⟨w.heap.size + 1 + 1, 4, none⟩ (.int .i64 sb) = W5 at *
  clear c0 c1 cf
  have C := hide (ru_ports H5.out)
  refine C.out.mono ?_
  rintro e v5 ⟨rfl, h⟩
  generalize tpL s5.1 s5.2 = sl at *
  generalize tpH s5.1 s5.2 = sh at *
  rw [← EE.out.2.2.2.2.1] at h
  have c0 := h.rt.cell 5 (.int .i64 0) rfl
  have c1 := h.rt.cell 6 (.int .i64 0) rfl
  have cf := h.rt.frozen
  have H6 : Hid (RRU w ((v5.setCell ⟨w.heap.size + 1 + 1, 5, none⟩ (.int .i64 sl)).setCell ⟨w.heap.size + 1 + 1, 6, none⟩ (.int .i64 sh)) s6 #[.int .i64 A, .int .i64 D, .int .i64 Q, .int .i64 sa, .int .i64 sb, .int .i64 sl, .int .i64 sh, .int .i64 0, .int .i64 0, .int .i64 0, .int .i64 0, .int .i64 0]) := hide ((h.set 5 (.int .i64 sl)).set 6 (.int .i64 sh))
  clear h C H5
  go_wp2_with fail
  generalize (v5.setCell ⟨w.heap.size + 1 + 1, 5, none⟩ (.int .i64 sl)).setCell ⟨w.heap.size + 1 + 1, 6, none⟩ (.int .i64 sh) = W6 at *
  clear c0 c1 cf
  have C := hide (ru_passes kTo H6.out)
  refine C.out.mono ?_
  rintro e v6 ⟨rfl, h⟩
  have C2 := hide (ru_demand (psB kTo s6.1 s6.2) h)
  clear h C H6
  go_wp2_with fail
  refine C2.out.mono ?_
  rintro e W7 ⟨rfl, h⟩
  have H7 : Hid (RRU w W7 s7 #[.int .i64 A, .int .i64 D, .int .i64 Q, .int .i64 sa, .int .i64 sb, .int .i64 sl, .int .i64 sh, .int .i64 0, .int .i64 0, .int .i64 0, .int .i64 0, .int .i64 0]) := hide (by rw [EE.out.2.2.2.2.2.1]; exact h)
  clear h C2
  go_wp2_with fail
  have C := hide (ru_any H7.out)
  refine C.out.mono ?_
  rintro e v7 ⟨rfl, h⟩
  generalize apA s7.1 s7.2 = da at *
  generalize apB s7.1 s7.2 = db at *
  rw [← EE.out.2.2.2.2.2.2.1] at h
  have c0 := h.rt.cell 7 (.int .i64 0) rfl
  have c1 := h.rt.cell 8 (.int .i64 0) rfl
  have cf := h.rt.frozen
  have H8 : Hid (RRU w ((v7.setCell ⟨w.heap.size + 1 + 1, 7, none⟩ (.int .i64 da)).setCell ⟨w.heap.size + 1 + 1, 8, none⟩ (.int .i64 db)) s8 #[.int .i64 A, .int .i64 D, .int .i64 Q, .int .i64 sa, .int .i64 sb, .int .i64 sl, .int .i64 sh, .int .i64 da, .int .i64 db, .int .i64 0, .int .i64 0, .int .i64 0]) := hide ((h.set 7 (.int .i64 da)).set 8 (.int .i64 db))
  clear h C H7
  go_wp2_with fail
  generalize (v7.setCell ⟨w.heap.size + 1 + 1, 7, none⟩ (.int .i64 da)).setCell ⟨w.heap.size + 1 + 1, 8, none⟩ (.int .i64 db) = W8 at *
  clear c0 c1 cf
  have C := hide (ru_ports H8.out)
  refine C.out.mono ?_
  rintro e v8 ⟨rfl, h⟩
  generalize tpL s8.1 s8.2 = dl at *
  generalize tpH s8.1 s8.2 = dh at *
  rw [← EE.out.2.2.2.2.2.2.2] at h
  have c0 := h.rt.cell 9 (.int .i64 0) rfl
  have c1 := h.rt.cell 10 (.int .i64 0) rfl
  have cf := h.rt.frozen
  have H9 : Hid (RRU w ((v8.setCell ⟨w.heap.size + 1 + 1, 9, none⟩ (.int .i64 dl)).setCell ⟨w.heap.size + 1 + 1, 10, none⟩ (.int .i64 dh)) s9 #[.int .i64 A, .int .i64 D, .int .i64 Q, .int .i64 sa, .int .i64 sb, .int .i64 sl, .int .i64 sh, .int .i64 da, .int .i64 db, .int .i64 dl, .int .i64 dh, .int .i64 0]) := hide ((h.set 9 (.int .i64 dl)).set 10 (.int .i64 dh))
  clear h C H8
  go_wp2_with fail
  generalize (v8.setCell ⟨w.heap.size + 1 + 1, 9, none⟩ (.int .i64 dl)).setCell ⟨w.heap.size + 1 + 1, 10, none⟩ (.int .i64 dh) = W9 at *
  clear c0 c1 cf
  have CI0 := hide (ru_isRead H9.out)
  cases hrd : rdB s9 with
  | true =>
    have HPP : Hid (PP = if ruOK A D Q sa sb sl sh da db dl dh 0 = true then some [A, D, Q, sa, sb, sl, sh, da, db, dl, dh, 0] else none) := hide (by rw [HPR.out]; unfold prE; rw [if_pos hrd]; rfl)
    have CI := hide (ru_isRead (H9.out.next ((Below.refl _ _).drew)))
    rw [hrd] at CI0 CI
    have CR := hide (fun W => validRule_walk A D Q sa sb sl sh da db dl dh 0 W)
    generalize ruOK A D Q sa sb sl sh da db dl dh 0 = bq at *
    clear hrd HPR EE E1
    refine CI0.out.mono ?_
    rintro e v9 ⟨rfl, hv9⟩
    rw [hv9]
    clear hv9 CI0
    go_upto_region 14 with fail
    have hL := H9.out.next ((Below.refl _ _).drew)
    have hK : LSr w W9.drew A D Q sa sb sl sh da db dl dh 0 := LSr.of hL.rt
    refine wp_region_lex (fun w' => LSr w w' A D Q sa sb sl sh da db dl dh 0) ((0, true) :: (1, true) :: (2, false) :: (3, true) :: (4, true) :: (5, false) :: (6, true) :: (7, false) :: (8, true) :: []) (by kernel_rfl) (by kernel_rfl) (by kernel_rfl) rfl hK ?_
    repeat (first
      | (refine wpLex_skip rfl (by rfl) (fun _ _ _ h => h) ?_; simp only [Act.put, List.setIfInBounds_toArray, List.set_cons_zero, List.set_cons_succ])
      | (refine wpLex_pass rfl (by rfl) hK ?_; simp only [Act.put, List.setIfInBounds_toArray, List.set_cons_zero, List.set_cons_succ])
      | (refine wpLex_take ?_ rfl (by rfl) (fun _ _ _ h => h) ?_ ?_; rotate_left; (intro wq hSw; (try dsimp only at hSw); first | (go_simp; done) | (go_simp; with_reducible rfl)); simp only [Act.put, List.setIfInBounds_toArray, List.set_cons_zero, List.set_cons_succ])
      | (refine wpLex_act rfl (by rfl) ?_; intro KK hKK; go_simp; (go_at_call 36; refine CI.out.mono ?_; clear CI; rintro e w9 ⟨rfl, hw9⟩; rw [hw9]; clear hw9); (try go_wp2_with fail); refine hKK.out _ _ hK ?_; clear hKK KK; try simp only [Act.put, List.setIfInBounds_toArray, List.set_cons_zero, List.set_cons_succ])
      | (refine wpLex_act rfl (by rfl) ?_; intro KK hKK; go_simp; (go_at_call 49; refine (CR.out _).mono ?_; clear CR; rintro e w9 ⟨rfl, hb9⟩; replace hL := hL.next hb9; have hK : LSr w w9 A D Q sa sb sl sh da db dl dh 0 := LSr.of hL.rt); (try go_wp2_with fail); refine hKK.out _ _ hK ?_; clear hKK KK; try simp only [Act.put, List.setIfInBounds_toArray, List.set_cons_zero, List.set_cons_succ])
      | (refine wpLex_act rfl (by rfl) ?_; intro KK hKK; have c0 := hL.box.cell 0 (.int .i64 0) rfl; have c1 := hL.box.cell 1 (.int .i64 0) rfl; have c2 := hL.box.cell 2 (.int .i64 0) rfl; have c3 := hL.box.cell 3 (.int .i64 0) rfl; have c4 := hL.box.cell 4 (.int .i64 0) rfl; have c5 := hL.box.cell 5 (.int .i64 0) rfl; have c6 := hL.box.cell 6 (.int .i64 0) rfl; have c7 := hL.box.cell 7 (.int .i64 0) rfl; have c8 := hL.box.cell 8 (.int .i64 0) rfl; have c9 := hL.box.cell 9 (.int .i64 0) rfl; have c10 := hL.box.cell 10 (.int .i64 0) rfl; have c11 := hL.box.cell 11 (.int .i64 0) rfl; have cf := hL.box.frozen; go_simp; refine hKK.out _ _ (LSr.of hL.hold_fin) ?_; clear hKK KK; try simp only [Act.put, List.setIfInBounds_toArray, List.set_cons_zero, List.set_cons_succ]))
    refine wpLex_nil ?_
    go_wp2_with fail
    exact bodyPost_ret (v := .tuple #[.agg #[.int .i64 A, .int .i64 D, .int .i64 Q, .int .i64 sa, .int .i64 sb, .int .i64 sl, .int .i64 sh, .int .i64 da, .int .i64 db, .int .i64 dl, .int .i64 dh, .int .i64 0], .bool bq]) (by simp [results, Try.results22, go_sem, c0, c1, c2, c3, c4, c5, c6, c7, c8, c9, c10, c11]) rfl ⟨A, D, Q, sa, sb, sl, sh, da, db, dl, dh, 0, bq, rfl, HPP.out, hL.fin⟩
  | false =>
    rw [hrd] at CI0
    have HPQ : Hid (PP = if rdB (nmS staL s9) = true then ruFin A D Q sa sb sl sh da db dl dh (nmV staL s9) else none) := hide (by rw [HPR.out]; unfold prE; rw [if_neg (by rw [hrd]; simp)])
    have E10 : Hid (nmS staL s9 = nmS staL s9) := hide rfl
    clear hrd HPR EE E1
    refine CI0.out.mono ?_
    rintro e v9 ⟨rfl, hv9⟩
    rw [hv9]
    clear hv9 CI0
    generalize hs10 : nmS staL s9 = s10 at *
    have ES := hide hs10
    clear hs10
    go_wp2_with fail
    refine (stateWords_walk W9).mono ?_
    rintro e u9 ⟨rfl, hLn⟩
    have hx : w.heap.size + 1 < W9.heap.size := H9.out.phr.lt
    have C := hide (ru_named staL W9.heap.size 4 rfl (by omega) hLn.1 hLn.2.1 (by omega) (H9.out.next hLn.2.2))
    clear hLn hx
    go_wp2_with fail
    refine C.out.mono ?_
    rintro e v9 ⟨rfl, h⟩
    generalize nmV staL s9 = S at *
    rw [ES.out] at h
    have c0 := h.rt.cell 11 (.int .i64 0) rfl
    have cf := h.rt.frozen
    have H10 : Hid (RRU w (v9.setCell ⟨w.heap.size + 1 + 1, 11, none⟩ (.int .i64 S)) s10 #[.int .i64 A, .int .i64 D, .int .i64 Q, .int .i64 sa, .int .i64 sb, .int .i64 sl, .int .i64 sh, .int .i64 da, .int .i64 db, .int .i64 dl, .int .i64 dh, .int .i64 S]) := hide (h.set 11 (.int .i64 S))
    clear h C H9
    go_upto_region 14 with fail
    generalize v9.setCell ⟨w.heap.size + 1 + 1, 11, none⟩ (.int .i64 S) = W10 at *
    clear c0 cf
    cases hrd : rdB s10 with
    | true =>
      have HPP : Hid (PP = if ruOK A D Q sa sb sl sh da db dl dh S = true then some [A, D, Q, sa, sb, sl, sh, da, db, dl, dh, S] else none) := hide (by rw [HPQ.out, if_pos hrd]; rfl)
      have CI := hide (ru_isRead (H10.out.next ((Below.refl _ _).drew)))
      rw [hrd] at CI
      have CR := hide (fun W => validRule_walk A D Q sa sb sl sh da db dl dh S W)
      generalize ruOK A D Q sa sb sl sh da db dl dh S = bq at *
      clear hrd HPQ
      have hL := H10.out.next ((Below.refl _ _).drew)
      have hK : LSr w W10.drew A D Q sa sb sl sh da db dl dh S := LSr.of hL.rt
      refine wp_region_lex (fun w' => LSr w w' A D Q sa sb sl sh da db dl dh S) ((0, true) :: (1, true) :: (2, false) :: (3, true) :: (4, true) :: (5, false) :: (6, true) :: (7, false) :: (8, true) :: []) (by kernel_rfl) (by kernel_rfl) (by kernel_rfl) rfl hK ?_
      repeat (first
        | (refine wpLex_skip rfl (by rfl) (fun _ _ _ h => h) ?_; simp only [Act.put, List.setIfInBounds_toArray, List.set_cons_zero, List.set_cons_succ])
        | (refine wpLex_pass rfl (by rfl) hK ?_; simp only [Act.put, List.setIfInBounds_toArray, List.set_cons_zero, List.set_cons_succ])
        | (refine wpLex_take ?_ rfl (by rfl) (fun _ _ _ h => h) ?_ ?_; rotate_left; (intro wq hSw; (try dsimp only at hSw); first | (go_simp; done) | (go_simp; with_reducible rfl)); simp only [Act.put, List.setIfInBounds_toArray, List.set_cons_zero, List.set_cons_succ])
        | (refine wpLex_act rfl (by rfl) ?_; intro KK hKK; go_simp; (go_at_call 36; refine CI.out.mono ?_; clear CI; rintro e w9 ⟨rfl, hw9⟩; rw [hw9]; clear hw9); (try go_wp2_with fail); refine hKK.out _ _ hK ?_; clear hKK KK; try simp only [Act.put, List.setIfInBounds_toArray, List.set_cons_zero, List.set_cons_succ])
        | (refine wpLex_act rfl (by rfl) ?_; intro KK hKK; go_simp; (go_at_call 49; refine (CR.out _).mono ?_; clear CR; rintro e w9 ⟨rfl, hb9⟩; replace hL := hL.next hb9; have hK : LSr w w9 A D Q sa sb sl sh da db dl dh S := LSr.of hL.rt); (try go_wp2_with fail); refine hKK.out _ _ hK ?_; clear hKK KK; try simp only [Act.put, List.setIfInBounds_toArray, List.set_cons_zero, List.set_cons_succ])
        | (refine wpLex_act rfl (by rfl) ?_; intro KK hKK; have c0 := hL.box.cell 0 (.int .i64 0) rfl; have c1 := hL.box.cell 1 (.int .i64 0) rfl; have c2 := hL.box.cell 2 (.int .i64 0) rfl; have c3 := hL.box.cell 3 (.int .i64 0) rfl; have c4 := hL.box.cell 4 (.int .i64 0) rfl; have c5 := hL.box.cell 5 (.int .i64 0) rfl; have c6 := hL.box.cell 6 (.int .i64 0) rfl; have c7 := hL.box.cell 7 (.int .i64 0) rfl; have c8 := hL.box.cell 8 (.int .i64 0) rfl; have c9 := hL.box.cell 9 (.int .i64 0) rfl; have c10 := hL.box.cell 10 (.int .i64 0) rfl; have c11 := hL.box.cell 11 (.int .i64 0) rfl; have cf := hL.box.frozen; go_simp; refine hKK.out _ _ (LSr.of hL.hold_fin) ?_; clear hKK KK; try simp only [Act.put, List.setIfInBounds_toArray, List.set_cons_zero, List.set_cons_succ]))
      refine wpLex_nil ?_
      go_wp2_with fail
      exact bodyPost_ret (v := .tuple #[.agg #[.int .i64 A, .int .i64 D, .int .i64 Q, .int .i64 sa, .int .i64 sb, .int .i64 sl, .int .i64 sh, .int .i64 da, .int .i64 db, .int .i64 dl, .int .i64 dh, .int .i64 S], .bool bq]) (by simp [results, Try.results22, go_sem, c0, c1, c2, c3, c4, c5, c6, c7, c8, c9, c10, c11]) rfl ⟨A, D, Q, sa, sb, sl, sh, da, db, dl, dh, S, bq, rfl, HPP.out, hL.fin⟩
    | false =>
      have HPP : Hid (PP = if false = true then some [A, D, Q, sa, sb, sl, sh, da, db, dl, dh, S] else none) := hide (by rw [HPQ.out, if_neg (by rw [hrd]; simp)]; rfl)
      have CI := hide (ru_isRead (H10.out.next ((Below.refl _ _).drew)))
      rw [hrd] at CI
      clear hrd HPQ
      have hL := H10.out.next ((Below.refl _ _).drew)
      have hK : LSr w W10.drew A D Q sa sb sl sh da db dl dh S := LSr.of hL.rt
      refine wp_region_lex (fun w' => LSr w w' A D Q sa sb sl sh da db dl dh S) ((0, true) :: (1, true) :: (2, false) :: (3, true) :: (4, true) :: (5, false) :: (6, true) :: (7, false) :: (8, true) :: []) (by kernel_rfl) (by kernel_rfl) (by kernel_rfl) rfl hK ?_
      repeat (first
        | (refine wpLex_skip rfl (by rfl) (fun _ _ _ h => h) ?_; simp only [Act.put, List.setIfInBounds_toArray, List.set_cons_zero, List.set_cons_succ])
        | (refine wpLex_pass rfl (by rfl) hK ?_; simp only [Act.put, List.setIfInBounds_toArray, List.set_cons_zero, List.set_cons_succ])
        | (refine wpLex_take ?_ rfl (by rfl) (fun _ _ _ h => h) ?_ ?_; rotate_left; (intro wq hSw; (try dsimp only at hSw); first | (go_simp; done) | (go_simp; with_reducible rfl)); simp only [Act.put, List.setIfInBounds_toArray, List.set_cons_zero, List.set_cons_succ])
        | (refine wpLex_act rfl (by rfl) ?_; intro KK hKK; go_simp; (go_at_call 36; refine CI.out.mono ?_; clear CI; rintro e w9 ⟨rfl, hw9⟩; rw [hw9]; clear hw9); (try go_wp2_with fail); refine hKK.out _ _ hK ?_; clear hKK KK; try simp only [Act.put, List.setIfInBounds_toArray, List.set_cons_zero, List.set_cons_succ])
        | (refine wpLex_act rfl (by rfl) ?_; intro KK hKK; have c0 := H10.out.box.cell 0 (.int .i64 0) rfl; have c1 := H10.out.box.cell 1 (.int .i64 0) rfl; have c2 := H10.out.box.cell 2 (.int .i64 0) rfl; have c3 := H10.out.box.cell 3 (.int .i64 0) rfl; have c4 := H10.out.box.cell 4 (.int .i64 0) rfl; have c5 := H10.out.box.cell 5 (.int .i64 0) rfl; have c6 := H10.out.box.cell 6 (.int .i64 0) rfl; have c7 := H10.out.box.cell 7 (.int .i64 0) rfl; have c8 := H10.out.box.cell 8 (.int .i64 0) rfl; have c9 := H10.out.box.cell 9 (.int .i64 0) rfl; have c10 := H10.out.box.cell 10 (.int .i64 0) rfl; have c11 := H10.out.box.cell 11 (.int .i64 0) rfl; have cf := H10.out.box.frozen; go_simp; refine hKK.out _ _ (LSr.of (HoldV.drewu H10.out.hold_fin)) ?_; clear hKK KK; try simp only [Act.put, List.setIfInBounds_toArray, List.set_cons_zero, List.set_cons_succ]))
      refine wpLex_nil ?_
      go_wp2_with fail
      exact bodyPost_ret (v := .tuple #[.agg #[.int .i64 A, .int .i64 D, .int .i64 Q, .int .i64 sa, .int .i64 sb, .int .i64 sl, .int .i64 sh, .int .i64 da, .int .i64 db, .int .i64 dl, .int .i64 dh, .int .i64 S], .bool false]) (by simp [results, Try.results22, go_sem, c0, c1, c2, c3, c4, c5, c6, c7, c8, c9, c10, c11]) rfl ⟨A, D, Q, sa, sb, sl, sh, da, db, dl, dh, S, false, rfl, HPP.out, H10.out.fin.drew⟩

theorem nmF_map (q : List UInt8) : ∀ L : List (List UInt8 × Int), nmF (L.map fun x => (bs x.1, x.2)) (bs q) = protoA L q
  | [] => rfl
  | (s, n) :: r => by
    rw [List.map_cons, nmF, protoA, nmF_map q r]
    by_cases h : s = q
    · rw [if_pos h, if_pos (by rw [h])]
    · rw [if_neg h, if_neg (fun e => h (bs_inj e))]
abbrev actK : List (List UInt8 × Int) := [([112, 97, 115, 115], 1), ([100, 114, 111, 112], 2), ([114, 101, 106, 101, 99, 116], 3)]
abbrev dirK : List (List UInt8 × Int) := [([105, 110], 1), ([111, 117, 116], 2), ([98, 111, 116, 104], 3)]
abbrev staK : List (List UInt8 × Int) := [([110, 101, 119], 1), ([107, 110, 111, 119, 110], 2), ([114, 101, 108, 97, 116, 101, 100], 3), ([115, 116, 114, 97, 121], 4)]
theorem act_f (q : List UInt8) : nmF actL (bs q) = protoA actK q := nmF_map q actK
theorem dir_f (q : List UInt8) : nmF dirL (bs q) = protoA dirK q := nmF_map q dirK
theorem sta_f (q : List UInt8) : nmF staL (bs q) = protoA staK q := nmF_map q staK
theorem pro_f (q : List UInt8) : nmF proL (bs q) = protoQ q := nmF_map q protoPL
theorem act_split : splitL 32 lActs = [[45], [112, 97, 115, 115], [100, 114, 111, 112], [114, 101, 106, 101, 99, 116]] := by decide
theorem dir_split : splitL 32 lDirs = [[45], [105, 110], [111, 117, 116], [98, 111, 116, 104]] := by decide
theorem sta_split : splitL 32 lStates = [[97, 110, 121], [110, 101, 119], [107, 110, 111, 119, 110], [114, 101, 108, 97, 116, 101, 100], [115, 116, 114, 97, 121]] := by decide
theorem act_same0 (q : List UInt8) : (match protoA actK q with | some A => decide (placeL (splitL 32 lActs) q 0 = A) | none => !inB (placeL (splitL 32 lActs) q 0) 1 3) = true := by
  rw [act_split]
  simp only [protoA, placeL]
  by_cases h1 : [112, 97, 115, 115] = q
  · subst h1; decide
  by_cases h2 : [100, 114, 111, 112] = q
  · subst h2; decide
  by_cases h3 : [114, 101, 106, 101, 99, 116] = q
  · subst h3; decide
  rw [if_neg h1, if_neg h2, if_neg h3]
  show (!inB _ 1 3) = true
  rw [if_neg h1, if_neg h2, if_neg h3]
  split <;> decide
theorem act_same (q : List UInt8) : match protoA actK q with | some A => placeL (splitL 32 lActs) q 0 = A | none => inB (placeL (splitL 32 lActs) q 0) 1 3 = false := by
  have h := act_same0 q
  cases hq : protoA actK q with
  | none => rw [hq] at h; simpa using h
  | some A => rw [hq] at h; simpa using h
theorem dir_same0 (q : List UInt8) : (match protoA dirK q with | some A => decide (placeL (splitL 32 lDirs) q 0 = A) | none => !inB (placeL (splitL 32 lDirs) q 0) 1 3) = true := by
  rw [dir_split]
  simp only [protoA, placeL]
  by_cases h1 : [105, 110] = q
  · subst h1; decide
  by_cases h2 : [111, 117, 116] = q
  · subst h2; decide
  by_cases h3 : [98, 111, 116, 104] = q
  · subst h3; decide
  rw [if_neg h1, if_neg h2, if_neg h3]
  show (!inB _ 1 3) = true
  rw [if_neg h1, if_neg h2, if_neg h3]
  split <;> decide
theorem dir_same (q : List UInt8) : match protoA dirK q with | some A => placeL (splitL 32 lDirs) q 0 = A | none => inB (placeL (splitL 32 lDirs) q 0) 1 3 = false := by
  have h := dir_same0 q
  cases hq : protoA dirK q with
  | none => rw [hq] at h; simpa using h
  | some A => rw [hq] at h; simpa using h
theorem sta_same (q : List UInt8) : protoA staK q = if placeL (splitL 32 lStates) q 0 < 1 then none else some (placeL (splitL 32 lStates) q 0) := by
  rw [sta_split]
  by_cases h0 : [97, 110, 121] = q
  · subst h0; decide
  by_cases h1 : [110, 101, 119] = q
  · subst h1; decide
  by_cases h2 : [107, 110, 111, 119, 110] = q
  · subst h2; decide
  by_cases h3 : [114, 101, 108, 97, 116, 101, 100] = q
  · subst h3; decide
  by_cases h4 : [115, 116, 114, 97, 121] = q
  · subst h4; decide
  have e : placeL [[97, 110, 121], [110, 101, 119], [107, 110, 111, 119, 110], [114, 101, 108, 97, 116, 101, 100], [115, 116, 114, 97, 121]] q 0 = -1 := by
    simp only [placeL]
    rw [if_neg h0, if_neg h1, if_neg h2, if_neg h3, if_neg h4]
  have e2 : protoA staK q = none := by
    simp only [protoA]
    rw [if_neg h1, if_neg h2, if_neg h3, if_neg h4]
  rw [e, e2]
  decide
/-! A phrase that is ill stays so. -/
theorem tkI_ill (R : List (List UInt8)) : tkI R true = true := by cases R <;> rfl
theorem psB_ill' (k : List UInt8) (R : List (List UInt8)) : psB k R true = false := by cases R <;> rfl
theorem nmS_ill (L : List (ByteArray × Int)) {s : St} (h : s.2 = true) : (nmS L s).2 = true := by unfold nmS; rw [h, tkI_ill]; rfl
theorem kyS_ill (k : List UInt8) {s : St} (h : s.2 = true) : (kyS k s).2 = true := by unfold kyS; rw [h]; rfl
theorem anS_ill {s : St} (h : s.2 = true) : (anS s).2 = true := by unfold anS apI; rw [h, psB_ill', tkI_ill]; rfl
theorem poS_ill {s : St} (h : s.2 = true) : (poS s).2 = true := by unfold poS tpI; rw [h, psB_ill']; rfl
theorem rdB_ill {s : St} (h : s.2 = true) : rdB s = false := by unfold rdB; rw [h]; rfl
theorem prE_ill (A D Q sa sb sl sh da db dl dh : Int) {s : St} (h : s.2 = true) : prE A D Q sa sb sl sh da db dl dh s = none := by
  unfold prE
  rw [rdB_ill h, rdB_ill (nmS_ill staL h)]
  rfl
theorem prE_same (A D Q sa sb sl sh da db dl dh : Int) (R : List (List UInt8)) : prE A D Q sa sb sl sh da db dl dh (R, false) = ruEnd A D Q sa sb sl sh da db dl dh R := by
  match R with
  | [] => rfl
  | [s] =>
    have e1 : rdB ([s], false) = false := rfl
    have e2 : nmS staL ([s], false) = ([], (protoA staK s).isNone) := by unfold nmS; simp only [tkR, tkI, tkW, sta_f]; rfl
    have e3 : nmV staL ([s], false) = (protoA staK s).getD 0 := by unfold nmV; simp only [tkW, sta_f]
    unfold prE
    rw [e1, e2, e3, sta_same]
    show _ = if placeL (splitL 32 lStates) s 0 < 1 then none else ruFin A D Q sa sb sl sh da db dl dh (placeL (splitL 32 lStates) s 0)
    by_cases h : placeL (splitL 32 lStates) s 0 < 1
    · rw [if_pos h, if_pos h]; rfl
    · rw [if_neg h, if_neg h]; rfl
  | s :: s2 :: r =>
    have e1 : rdB (s :: s2 :: r, false) = false := rfl
    have e2 : rdB (nmS staL (s :: s2 :: r, false)) = false := by unfold rdB nmS; simp [tkR]
    unfold prE
    rw [e1, e2]
    rfl
theorem ruFin_bad {A D Q sa sb sl sh da db dl dh S : Int} (h : ruOK A D Q sa sb sl sh da db dl dh S = false) : ruFin A D Q sa sb sl sh da db dl dh S = none := by unfold ruFin; rw [h]; rfl
theorem ruEnd_bad {A D Q sa sb sl sh da db dl dh : Int} (h : ∀ S, ruOK A D Q sa sb sl sh da db dl dh S = false) (R : List (List UInt8)) : ruEnd A D Q sa sb sl sh da db dl dh R = none := by
  match R with
  | [] => exact ruFin_bad (h 0)
  | [s] =>
    show (if placeL (splitL 32 lStates) s 0 < 1 then none else ruFin A D Q sa sb sl sh da db dl dh (placeL (splitL 32 lStates) s 0)) = none
    split
    · rfl
    · exact ruFin_bad (h _)
  | s :: s2 :: r => rfl
/-! Ports. -/
theorem led_big6 (l : List UInt8) (h : l.all dgt = true) (hl : ledN l = false) (h2 : 5 < l.length) : 100000 ≤ numV l := by
  have hd := List.all_eq_true.1 h
  have := numV_le l h 6 (by omega)
  match l, h2, hl, hd, this with
  | a :: b :: c :: d :: e :: f :: t, _, hl, hd, this =>
    have h1 := dgt_iff.1 (hd a (by simp))
    have h2 := dgt_iff.1 (hd b (by simp))
    have h3 := dgt_iff.1 (hd c (by simp))
    have h5 := dgt_iff.1 (hd d (by simp))
    have h6 := dgt_iff.1 (hd e (by simp))
    have h7 := dgt_iff.1 (hd f (by simp))
    have h4 : a.toNat ≠ 48 := fun e => by
      have : a = 48 := UInt8.toNat_inj.1 e
      rw [this] at hl; simp [ledN] at hl
    simp only [List.take_succ_cons, List.take_zero] at this
    have e : numV [a, b, c, d, e, f] = ((a.toNat : Int) - 48) * 100000 + ((b.toNat : Int) - 48) * 10000 + ((c.toNat : Int) - 48) * 1000 + ((d.toNat : Int) - 48) * 100 + ((e.toNat : Int) - 48) * 10 + ((f.toNat : Int) - 48) := by simp [numV]; omega
    omega
theorem num5 (l : List UInt8) : (numF l 5 && inB (numV l) 0 65535) = numOK l 65535 := by
  unfold numF numOK
  cases e1 : l.all dgt with
  | false => simp
  | true =>
    cases e2 : ledN l with
    | true => simp
    | false =>
      have hb := led_big6 l e1 e2
      have h0 := numV_nn l e1 l.length (Nat.le_refl _)
      rw [List.take_length] at h0
      have hi : inB (numV l) 0 65535 = decide (numV l ≤ 65535) := by unfold inB; simp [h0]
      rw [hi]
      by_cases h : l.length ≤ 5
      · rw [decide_eq_true h]; cases l.isEmpty <;> simp
      · rw [decide_eq_false (p := numV l ≤ 65535) (by have := hb (by omega); omega)]; simp
theorem numOK_dash {l : List UInt8} (h : 45 ∈ l) : numOK l 65535 = false := by
  have : l.all dgt = false := by
    rw [Bool.eq_false_iff]
    intro ha
    have := List.all_eq_true.1 ha 45 h
    exact absurd this (by decide)
  unfold numOK
  rw [this]
  simp
theorem numF_dash {l : List UInt8} (h : 45 ∈ l) : numF l 5 = false := by
  have : l.all dgt = false := by
    rw [Bool.eq_false_iff]
    intro ha
    have := List.all_eq_true.1 ha 45 h
    exact absurd this (by decide)
  unfold numF
  rw [this]
  simp
/-- A word's ends, both ways of reading it. -/
theorem ends_same (y : List UInt8) : if (numOK (cuA y) 65535 && numOK (cuB y) 65535) = true then endsQ y = some (numX (cuA y) 65535, numX (cuB y) 65535) else ∀ lo hi, endsQ y = some (lo, hi) → portB lo hi = false := by
  have key : ∀ a b : List UInt8, if (numOK a 65535 && numOK b 65535) = true then (numF a 5 = true ∧ numF b 5 = true ∧ numX a 65535 = numV a ∧ numX b 65535 = numV b) else (numF a 5 = true → numF b 5 = true → portB (numV a) (numV b) = false) := by
    intro a b
    have ha := num5 a
    have hb := num5 b
    cases e1 : numOK a 65535 with
    | true =>
      cases e2 : numOK b 65535 with
      | true =>
        rw [e1] at ha; rw [e2] at hb
        rw [if_pos (show (true && true) = true from rfl)]
        exact ⟨(Bool.and_eq_true_iff.1 ha).1, (Bool.and_eq_true_iff.1 hb).1, numX_yes e1, numX_yes e2⟩
      | false =>
        rw [e2] at hb
        rw [if_neg (by simp)]
        intro _ h2
        rw [h2, Bool.true_and] at hb
        unfold portB
        rw [hb]
        simp
    | false =>
      rw [e1] at ha
      rw [if_neg (by simp)]
      intro h1 _
      rw [h1, Bool.true_and] at ha
      unfold portB
      rw [ha]
      simp
  by_cases hd : 45 ∈ y
  · obtain ⟨a, b, rfl, hna⟩ := List.eq_append_cons_of_mem hd
    have eA : cuA (a ++ 45 :: b) = a := (upTo_yes 45 a b hna).1
    have eB : cuB (a ++ 45 :: b) = b := by unfold cuB; rw [if_pos hd]; exact (upTo_yes 45 a b hna).2
    rw [eA, eB]
    unfold endsQ
    rw [split_yes 45 b a hna]
    by_cases hb : 45 ∈ b
    · rw [numOK_dash hb, Bool.and_false, if_neg (by simp)]
      intro lo hi h
      rw [if_neg] at h
      · cases h
      · rintro ⟨_, _, h3⟩
        obtain ⟨c, d, rfl, hnc⟩ := List.eq_append_cons_of_mem hb
        rw [split_yes 45 d c hnc] at h3
        have := splitL_pos 45 d
        simp only [List.length_cons] at h3
        omega
    · rw [split_no 45 b hb]
      have hk := key a b
      split
      · rename_i h
        rw [if_pos h] at hk
        obtain ⟨h1, h2, h3, h4⟩ := hk
        rw [if_pos ⟨h1, h2, by simp⟩, h3, h4]
        rfl
      · rename_i h
        rw [if_neg h] at hk
        intro lo hi he
        by_cases hc : numF a 5 = true ∧ numF b 5 = true
        · rw [if_pos ⟨hc.1, hc.2, by simp⟩] at he
          cases he
          exact hk hc.1 hc.2
        · rw [if_neg (fun x => hc ⟨x.1, x.2.1⟩)] at he
          cases he
  · have eB : cuB y = y := by unfold cuB; rw [if_neg hd]
    have eA : cuA y = y := (upTo_no 45 y hd).1
    rw [eA, eB]
    unfold endsQ
    rw [split_no 45 y hd]
    have hk := key y y
    split
    · rename_i h
      rw [if_pos h] at hk
      obtain ⟨h1, h2, h3, h4⟩ := hk
      rw [if_pos ⟨h1, h2, by simp⟩, h3]
      rfl
    · rename_i h
      rw [if_neg h] at hk
      intro lo hi he
      by_cases hc : numF y 5 = true
      · rw [if_pos ⟨hc, hc, by simp⟩] at he
        cases he
        exact hk hc hc
      · rw [if_neg (fun x => hc x.1)] at he
        cases he
theorem ports_gen (K : Int → Int → St → Option (List Int)) (k : Int → Int → List (List UInt8) → Option (List Int)) (hK : ∀ lo hi R, K lo hi (R, false) = k lo hi R) (hI : ∀ lo hi (s : St), s.2 = true → K lo hi s = none) (hp : ∀ lo hi R, portB lo hi = false → k lo hi R = none) (h1 : k 0 65535 [kPort] = none) (a b : Int) (R : List (List UInt8)) :
    K (tpL R false) (tpH R false) (poS (R, false)) = match portsQ a b R with
      | none => none
      | some (_, _, lo, hi, r) => k lo hi r := by
  have no : psB kPort R false = false → K (tpL R false) (tpH R false) (poS (R, false)) = k 0 65535 R := by
    intro h
    unfold poS tpL tpH tpR tpI
    simp only [h]
    exact hK 0 65535 R
  match R with
  | [] => exact no rfl
  | [x] =>
    by_cases hx : x = kPort
    · subst hx
      have e : (poS ([kPort], false)).2 = true := by decide
      rw [hI _ _ _ e]
      exact h1.symm
    · rw [no (by rw [psB_cons]; exact beq_eq_false_iff_ne.2 hx)]
      rfl
  | x :: y :: r =>
    by_cases hx : x = kPort
    · have hb : psB kPort (x :: y :: r) false = true := by rw [psB_cons, hx]; rfl
      have hr : psR kPort (x :: y :: r) false = y :: r := psR_yes hb
      have eW : tpW (x :: y :: r) false = y := by unfold tpW; rw [hr]; rfl
      have eL : tpL (x :: y :: r) false = numX (cuA y) 65535 := by unfold tpL; rw [if_pos hb, eW]
      have eH : tpH (x :: y :: r) false = numX (cuB y) 65535 := by unfold tpH; rw [if_pos hb, eW]
      have eS : poS (x :: y :: r, false) = (r, !(numOK (cuA y) 65535 && numOK (cuB y) 65535)) := by unfold poS tpR tpI; simp only [if_pos hb, hr, eW]; rfl
      rw [eL, eH, eS]
      have hs := ends_same y
      have eP : portsQ a b (x :: y :: r) = match endsQ y with
        | none => none
        | some (lo, hi) => some (a, b, lo, hi, r) := by unfold portsQ; simp only [keyT, if_pos hx]; rfl
      rw [eP]
      cases hn : (numOK (cuA y) 65535 && numOK (cuB y) 65535) with
      | true =>
        rw [hn, if_pos rfl] at hs
        rw [hs]
        exact hK _ _ r
      | false =>
        rw [hn, if_neg (by simp)] at hs
        rw [hI _ _ _ rfl]
        cases he : endsQ y with
        | none => rfl
        | some v =>
          obtain ⟨lo, hi⟩ := v
          exact (hp lo hi r (hs lo hi he)).symm
    · rw [no (by rw [psB_cons]; exact beq_eq_false_iff_ne.2 hx)]
      have eP : portsQ a b (x :: y :: r) = some (a, b, 0, 65535, x :: y :: r) := by unfold portsQ; simp only [keyT, if_neg hx]
      rw [eP]
theorem portsQ_ab {a b a0 b0 lo hi : Int} {R r : List (List UInt8)} (h : portsQ a b R = some (a0, b0, lo, hi, r)) : a0 = a ∧ b0 = b ∧ r.length ≤ R.length := by
  unfold portsQ at h
  match R with
  | [] => simp [keyT] at h; obtain ⟨rfl, rfl, _, _, rfl⟩ := h; exact ⟨rfl, rfl, Nat.le_refl _⟩
  | [x] => simp [keyT] at h; obtain ⟨rfl, rfl, _, _, rfl⟩ := h; exact ⟨rfl, rfl, Nat.le_refl _⟩
  | x :: y :: r' =>
    by_cases hx : x = kPort
    · simp only [keyT, if_pos hx] at h
      cases he : endsQ y with
      | none => rw [he] at h; cases h
      | some v =>
        rw [he] at h
        simp only [Option.some.injEq, Prod.mk.injEq] at h
        obtain ⟨rfl, rfl, _, _, rfl⟩ := h
        exact ⟨rfl, rfl, by simp; omega⟩
    · simp only [keyT, if_neg hx, Option.some.injEq, Prod.mk.injEq] at h
      obtain ⟨rfl, rfl, _, _, rfl⟩ := h
      exact ⟨rfl, rfl, Nat.le_refl _⟩
/-- One side, as the program reads it. -/
def sdK (key : List UInt8) (K : Int → Int → Int → Int → St → Option (List Int)) (s : St) : Option (List Int) := K (apA (kyS key s).1 (kyS key s).2) (apB (kyS key s).1 (kyS key s).2) (tpL (anS (kyS key s)).1 (anS (kyS key s)).2) (tpH (anS (kyS key s)).1 (anS (kyS key s)).2) (poS (anS (kyS key s)))
theorem side_ill (key : List UInt8) (K : Int → Int → Int → Int → St → Option (List Int)) (hI : ∀ a b lo hi (s : St), s.2 = true → K a b lo hi s = none) {s : St} (h : s.2 = true ∨ (kyS key s).2 = true ∨ (anS (kyS key s)).2 = true) : sdK key K s = none := by
  have h2 : (anS (kyS key s)).2 = true := by
    rcases h with h | h | h
    · exact anS_ill (kyS_ill key h)
    · exact anS_ill h
    · exact h
  exact hI _ _ _ _ _ (poS_ill h2)
theorem side_gen (key : List UInt8) (K : Int → Int → Int → Int → St → Option (List Int)) (k : Int → Int → Int → Int → List (List UInt8) → Option (List Int)) (hK : ∀ a b lo hi R, K a b lo hi (R, false) = k a b lo hi R) (hI : ∀ a b lo hi (s : St), s.2 = true → K a b lo hi s = none) (hp : ∀ a b lo hi R, portB lo hi = false → k a b lo hi R = none) (h1 : ∀ a b, k a b 0 65535 [kPort] = none) (R : List (List UInt8)) :
    sdK key K (R, false) = match sideQ key R with
      | none => none
      | some (a, b, lo, hi, r) => k a b lo hi r := by
  match R with
  | [] => rw [side_ill key K hI (.inr (.inl rfl))]; rfl
  | [x] =>
    have e : sideQ key [x] = none := rfl
    rw [e]
    by_cases hx : x = key
    · have hb : psB key [x] false = true := by rw [psB_cons, hx]; simp
      refine side_ill key K hI (.inr (.inr ?_))
      have : kyS key ([x], false) = ([], false) := by unfold kyS; simp only [hb, psR_yes hb]; rfl
      rw [this]
      rfl
    · have hb : psB key [x] false = false := by rw [psB_cons]; exact beq_eq_false_iff_ne.2 hx
      exact side_ill key K hI (.inr (.inl (by unfold kyS; simp only [hb]; rfl)))
  | x :: y :: r =>
    by_cases hx : x = key
    · have hb : psB key (x :: y :: r) false = true := by rw [psB_cons, hx]; simp
      have e1 : kyS key (x :: y :: r, false) = (y :: r, false) := by unfold kyS; simp only [hb, psR_yes hb]; rfl
      have e2 : sideQ key (x :: y :: r) = if y = kAny then portsQ 0 0 r else if pfOK y = true then portsQ (pfA y) (pfB y) r else none := by unfold sideQ; simp only [keyT, if_pos hx]
      unfold sdK
      rw [e1, e2]
      by_cases hy : y = kAny
      · have hc : psB kAny (y :: r) false = true := by rw [psB_cons, hy]; rfl
        have e3 : anS (y :: r, false) = (r, false) := by unfold anS apR apI; simp only [hc, psR_yes hc]; rfl
        have e4 : apA (y :: r) false = 0 := by unfold apA; rw [if_pos hc]
        have e5 : apB (y :: r) false = 0 := by unfold apB; rw [if_pos hc]
        rw [e3, if_pos hy, e4, e5, ports_gen (K 0 0) (k 0 0) (hK 0 0) (hI 0 0) (hp 0 0) (h1 0 0) 0 0 r]
        cases hq : portsQ 0 0 r with
        | none => rfl
        | some v =>
          obtain ⟨a0, b0, lo, hi, r'⟩ := v
          obtain ⟨rfl, rfl, _⟩ := portsQ_ab hq
          rfl
      · have hc : psB kAny (y :: r) false = false := by rw [psB_cons]; exact beq_eq_false_iff_ne.2 hy
        have e3 : anS (y :: r, false) = (r, !pfOK y) := by unfold anS apR apI; simp only [hc]; rfl
        have e4 : apA (y :: r) false = pfA y := by unfold apA; rw [hc]; rfl
        have e5 : apB (y :: r) false = pfB y := by unfold apB; rw [hc]; rfl
        rw [e3, if_neg hy, e4, e5]
        cases ho : pfOK y with
        | true =>
          rw [if_pos rfl]
          show K _ _ (tpL r false) (tpH r false) (poS (r, false)) = _
          rw [ports_gen (K (pfA y) (pfB y)) (k (pfA y) (pfB y)) (hK _ _) (hI _ _) (hp _ _) (h1 _ _) (pfA y) (pfB y) r]
          cases hq : portsQ (pfA y) (pfB y) r with
          | none => rfl
          | some v =>
            obtain ⟨a0, b0, lo, hi, r'⟩ := v
            obtain ⟨rfl, rfl, _⟩ := portsQ_ab hq
            rfl
        | false =>
          rw [if_neg (by simp)]
          exact hI _ _ _ _ _ (poS_ill rfl)
    · have hb : psB key (x :: y :: r) false = false := by rw [psB_cons]; exact beq_eq_false_iff_ne.2 hx
      have e2 : sideQ key (x :: y :: r) = none := by unfold sideQ; simp only [keyT, if_neg hx]
      rw [e2]
      exact side_ill key K hI (.inr (.inl (by unfold kyS; simp only [hb]; rfl)))
theorem sideQ_len {key : List UInt8} {a b lo hi : Int} {R r : List (List UInt8)} (h : sideQ key R = some (a, b, lo, hi, r)) : 2 + r.length ≤ R.length := by
  unfold sideQ at h
  match R with
  | [] => simp [keyT] at h
  | [x] => simp [keyT] at h
  | x :: y :: r' =>
    by_cases hx : x = key
    · simp only [keyT, if_pos hx] at h
      by_cases hy : y = kAny
      · rw [if_pos hy] at h; have := (portsQ_ab h).2.2; simp; omega
      · rw [if_neg hy] at h
        by_cases ho : pfOK y = true
        · rw [if_pos ho] at h; have := (portsQ_ab h).2.2; simp; omega
        · rw [if_neg ho] at h; cases h
    · simp only [keyT, if_neg hx] at h; cases h
/-- Both sides. -/
def sp2 (A D Q sa sb sl sh : Int) (R : List (List UInt8)) : Option (List Int) := match sideQ kTo R with
  | none => none
  | some (da, db, dl, dh, r) => ruEnd A D Q sa sb sl sh da db dl dh r
theorem port_bad1 {A D Q sa sb sl sh da db dl dh : Int} (h : portB sl sh = false) (S : Int) : ruOK A D Q sa sb sl sh da db dl dh S = false := by unfold ruOK; rw [h]; simp
theorem port_bad2 {A D Q sa sb sl sh da db dl dh : Int} (h : portB dl dh = false) (S : Int) : ruOK A D Q sa sb sl sh da db dl dh S = false := by unfold ruOK; rw [h]; simp
theorem sd2_same (A D Q sa sb sl sh : Int) (R : List (List UInt8)) : sdK kTo (prE A D Q sa sb sl sh) (R, false) = sp2 A D Q sa sb sl sh R :=
  side_gen kTo (prE A D Q sa sb sl sh) (ruEnd A D Q sa sb sl sh) (fun _ _ _ _ R => prE_same A D Q sa sb sl sh _ _ _ _ R) (fun _ _ _ _ _ h => prE_ill A D Q sa sb sl sh _ _ _ _ h) (fun _ _ _ _ R h => ruEnd_bad (port_bad2 h) R) (fun a b => by
    have e : placeL (splitL 32 lStates) kPort 0 < 1 := by rw [sta_split]; decide
    show (if placeL (splitL 32 lStates) kPort 0 < 1 then none else ruFin A D Q sa sb sl sh a b 0 65535 (placeL (splitL 32 lStates) kPort 0)) = none
    rw [if_pos e]) R
theorem sd1_same (A D Q : Int) (R : List (List UInt8)) : sdK kFrom (fun sa sb sl sh s => sdK kTo (prE A D Q sa sb sl sh) s) (R, false) = match sideQ kFrom R with
      | none => none
      | some (sa, sb, sl, sh, r) => sp2 A D Q sa sb sl sh r :=
  side_gen kFrom (fun sa sb sl sh s => sdK kTo (prE A D Q sa sb sl sh) s) (sp2 A D Q) (fun sa sb sl sh R => sd2_same A D Q sa sb sl sh R) (fun sa sb sl sh s h => side_ill kTo _ (fun _ _ _ _ _ h => prE_ill A D Q sa sb sl sh _ _ _ _ h) (.inl h)) (fun sa sb sl sh R h => by
    unfold sp2
    cases sideQ kTo R with
    | none => rfl
    | some v => exact ruEnd_bad (port_bad1 h) _) (fun a b => rfl) R
theorem prP_is (ps : List (List UInt8)) : prP ps = sdK kFrom (fun sa sb sl sh s => sdK kTo (prE (nmV actL (ps, false)) (nmV dirL (rs1 ps)) (nmV proL (rs2 ps)) sa sb sl sh) s) (rs3 ps) := rfl
theorem prP_ill {ps : List (List UInt8)} (h : (rs3 ps).2 = true) : prP ps = none := by
  rw [prP_is]
  exact side_ill kFrom _ (fun _ _ _ _ s h => side_ill kTo _ (fun _ _ _ _ _ h => prE_ill _ _ _ _ _ _ _ _ _ _ _ h) (.inl h)) (.inl h)
theorem nmS_cons (L : List (ByteArray × Int)) (x : List UInt8) (r : List (List UInt8)) : nmS L (x :: r, false) = (r, (nmF L (bs x)).isNone) := rfl
theorem ru_none_end {A D P sa sb sl sh : Int} (hA : inB A 1 3 = false ∨ inB D 1 3 = false) (r1 : List (List UInt8)) : sp2 A D P sa sb sl sh r1 = none := by
  unfold sp2
  cases sideQ kTo r1 with
  | none => rfl
  | some v =>
    refine ruEnd_bad (fun S => ?_) _
    unfold ruOK
    rcases hA with h | h <;> rw [h] <;> simp
theorem ruP_sp (a d p : List UInt8) (r : List (List UInt8)) : ruP (a :: d :: p :: r) = if r.length < 4 then none else match protoQ p with
    | none => none
    | some P => match sideQ kFrom r with
      | none => none
      | some (sa, sb, sl, sh, r1) => sp2 (placeL (splitL 32 lActs) a 0) (placeL (splitL 32 lDirs) d 0) P sa sb sl sh r1 := rfl
/-- The program reads a rule's words as the model does. -/
theorem ru_same (ps : List (List UInt8)) : prP ps = ruP ps := by
  match ps with
  | [] => exact prP_ill rfl
  | [a] => exact prP_ill (nmS_ill proL (by show (nmS dirL (nmS actL ([a], false))).2 = true; rw [nmS_cons]; unfold nmS; simp [tkI]))
  | [a, d] => exact prP_ill (by show (nmS proL (nmS dirL (nmS actL ([a, d], false)))).2 = true; rw [nmS_cons]; cases (nmF actL (bs a)).isNone with | true => exact nmS_ill proL (nmS_ill dirL rfl) | false => rw [nmS_cons]; unfold nmS; simp [tkI])
  | a :: d :: p :: r =>
    rw [ruP_sp]
    have hbad : (inB (placeL (splitL 32 lActs) a 0) 1 3 = false ∨ inB (placeL (splitL 32 lDirs) d 0) 1 3 = false) → (if r.length < 4 then none else match protoQ p with
      | none => none
      | some P => match sideQ kFrom r with
        | none => none
        | some (sa, sb, sl, sh, r1) => sp2 (placeL (splitL 32 lActs) a 0) (placeL (splitL 32 lDirs) d 0) P sa sb sl sh r1) = (none : Option (List Int)) := by
      intro h
      split
      · rfl
      · cases protoQ p with
        | none => rfl
        | some P =>
          cases sideQ kFrom r with
          | none => rfl
          | some v => exact ru_none_end h _
    have e1 : rs1 (a :: d :: p :: r) = (d :: p :: r, (protoA actK a).isNone) := by unfold rs1; rw [nmS_cons, act_f]
    have v1 : nmV actL (a :: d :: p :: r, false) = (protoA actK a).getD 0 := by unfold nmV; simp only [tkW, act_f]
    have hA := act_same a
    cases qa : protoA actK a with
    | none =>
      rw [qa] at hA e1
      rw [hbad (.inl hA)]
      exact prP_ill (by unfold rs3 rs2; rw [e1]; exact nmS_ill proL (nmS_ill dirL rfl))
    | some A =>
      rw [qa] at hA e1 v1
      have e2 : rs2 (a :: d :: p :: r) = (p :: r, (protoA dirK d).isNone) := by unfold rs2; rw [e1]; show nmS dirL (d :: p :: r, false) = _; rw [nmS_cons, dir_f]
      have v2 : nmV dirL (rs1 (a :: d :: p :: r)) = (protoA dirK d).getD 0 := by rw [e1]; unfold nmV; simp only [Option.isNone_some, tkW, dir_f]
      have hD := dir_same d
      cases qd : protoA dirK d with
      | none =>
        rw [qd] at hD e2
        rw [hbad (.inr hD)]
        exact prP_ill (by unfold rs3; rw [e2]; exact nmS_ill proL rfl)
      | some D =>
        rw [qd] at hD e2 v2
        have e3 : rs3 (a :: d :: p :: r) = (r, (protoQ p).isNone) := by unfold rs3; rw [e2]; show nmS proL (p :: r, false) = _; rw [nmS_cons, pro_f]
        have v3 : nmV proL (rs2 (a :: d :: p :: r)) = (protoQ p).getD 0 := by rw [e2]; unfold nmV; simp only [Option.isNone_some, tkW, pro_f]
        cases qp : protoQ p with
        | none =>
          rw [qp] at e3
          rw [prP_ill (by rw [e3]; rfl)]
          split <;> rfl
        | some P =>
          rw [qp] at e3 v3
          rw [prP_is, e3, v1, v2, v3]
          show sdK kFrom (fun sa sb sl sh s => sdK kTo (prE A D P sa sb sl sh) s) (r, false) = _
          rw [sd1_same, hA, hD]
          by_cases h4 : r.length < 4
          · rw [if_pos h4]
            cases hs : sideQ kFrom r with
            | none => rfl
            | some v =>
              obtain ⟨sa, sb, sl, sh, r1⟩ := v
              have l1 := sideQ_len hs
              show sp2 A D P sa sb sl sh r1 = none
              unfold sp2
              cases ht : sideQ kTo r1 with
              | none => rfl
              | some u =>
                obtain ⟨da, db, dl, dh, r2⟩ := u
                have l2 := sideQ_len ht
                omega
          · rw [if_neg h4]

theorem readRule_walk (w : World) (a : Option Addr) (ps : List (List UInt8)) (cap : Nat) (hd : Wds ps) (h0 : 0 < ps.length) (hs : ArrS w a ps) (hc : ps.length ≤ cap) :
    Calls Try.prog 22 #[.slice a ps.length cap] w fun e w' => ∃ (y0 y1 y2 y3 y4 y5 y6 y7 y8 y9 y10 y11 : Int) (okq : Bool), e = .returned (.tuple #[.agg #[.int .i64 y0, .int .i64 y1, .int .i64 y2, .int .i64 y3, .int .i64 y4, .int .i64 y5, .int .i64 y6, .int .i64 y7, .int .i64 y8, .int .i64 y9, .int .i64 y10, .int .i64 y11], .bool okq]) ∧ (ruP ps = if okq = true then some [y0, y1, y2, y3, y4, y5, y6, y7, y8, y9, y10, y11] else none) ∧ Below w.heap.size w w' := by
  have h := readRule_walk0 w a ps cap hd hs hc
  rw [ru_same] at h
  exact h
end Go.Proofs.Ytgegnkboibgbgaa
