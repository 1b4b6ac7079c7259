/-
Contracts of functions of this seat.
-/
import Derived.Test.YtgegnkboibgbgaaRows
import Derived.WalkKit
import Derived.ProofKit
import Derived.OpenShut
import Derived.Test.YtgegnkboibgbgaaRpi
import Derived.Test.YtgegnkboibgbgaaNod
import Derived.Test.YtgegnkboibgbgaaSrc
namespace Go.Proofs.Ytgegnkboibgbgaa
open Go.ChangeShapes Go.WideShapes Go.ChangeAt Go.RowKit
set_option linter.unusedVariables false
set_option maxRecDepth 100000
abbrev phT : Nat := 66
/-- A phrase: its words, whether one of them did not fit. -/
def Phr (w : World) (p N : Nat) (ps : List (List UInt8)) (ill : Bool) : Prop := ∃ a cap, HoldV w p #[.slice a ps.length cap, .bool ill] phT ∧ ArrS w a ps ∧ ps.length ≤ cap ∧ (ps ≠ [] → ∀ b off, a = some ⟨b, off, none⟩ → b ≠ p ∧ b < N)
theorem Phr.lt {w : World} {p N : Nat} {ps : List (List UInt8)} {ill : Bool} (h : Phr w p N ps ill) : p < w.heap.size := by obtain ⟨a, cap, h1, _⟩ := h; exact h1.lt
theorem Phr.next {w w' : World} {p N : Nat} {ps : List (List UInt8)} {ill : Bool} (h : Phr w p N ps ill) (hb : Below w.heap.size w w') : Phr w' p N ps ill := by
  obtain ⟨a, cap, h1, h2, h3, h4⟩ := h
  exact ⟨a, cap, h1.next hb, h2.below hb (Nat.le_refl _), h3, h4⟩
theorem ArrS.other {w : World} {a : Option Addr} {ps : List (List UInt8)} {p i : Nat} {y : Value} (h : ArrS w a ps) (hne : ps ≠ [] → ∀ b off, a = some ⟨b, off, none⟩ → b ≠ p) : ArrS (w.setCell ⟨p, i, none⟩ y) a ps := by
  intro j hj
  obtain ⟨b, off, ea, hb, hc⟩ := h j hj
  refine ⟨b, off, ea, Nat.lt_of_lt_of_le hb (grown_cell w p i y).size, ?_⟩
  rw [World.cell?_setCell_far _ _ _ _ (show p ≠ b from fun e => hne (by intro h0; rw [h0] at hj; simp at hj) b off ea e.symm)]
  exact hc
theorem phrase_demand (w : World) (p N : Nat) (ps : List (List UInt8)) (ill hold : Bool) (h : Phr w p N ps ill) :
    Calls Try.prog 34 #[.pointer (some ⟨p, 0, none⟩), .bool hold] w fun e w' => e = .returned (.tuple #[]) ∧ Phr w' p N ps (ill || !hold) ∧ w.grownBy w' (some p) := by
  obtain ⟨a, cap, h1, h2, h3, h4⟩ := h
  have c1 := h1.cell 1 (.bool ill) rfl
  have cf := h1.frozen
  have HP := hide (show Phr w p N ps ill from ⟨a, cap, h1, h2, h3, h4⟩)
  have HS : Hid (Phr (w.setCell ⟨p, 1, none⟩ (.bool true)) p N ps true) := hide ⟨a, cap, h1.set 1 _, h2.other (fun h0 b off e => (h4 h0 b off e).1), h3, h4⟩
  clear h1 h2 h3 h4
  cases hold with
  | true =>
    go_enter Try.func34, Try.ntmps34
    go_wp2_with fail
    go_end0
    exact ⟨rfl, by rw [Bool.not_true, Bool.or_false]; exact HP.out, ⟨rfl, rfl, rfl, Nat.le_refl _, fun _ _ _ => rfl⟩⟩
  | false =>
    go_enter Try.func34, Try.ntmps34
    go_wp2_with fail
    go_end0
    exact ⟨rfl, by rw [Bool.not_false, Bool.or_true]; exact HS.out, grown_cell _ _ _ _⟩
/-- A phrase that has a word: it and what is behind it. -/
theorem Phr.more {w : World} {p N : Nat} {q : List UInt8} {r : List (List UInt8)} {ill : Bool} (h : Phr w p N (q :: r) ill) : ∃ b off cap a', HoldV w p #[.slice (some ⟨b, off, none⟩) (r.length + 1) cap, .bool ill] phT ∧ w.cell? ⟨b, off, none⟩ = some (.string (bs q)) ∧ b ≠ p ∧
    (∀ W : World, (Instr.slice 35 (.slice (some ⟨b, off, none⟩) (r.length + 1) cap) (some (.int .i64 1)) none none).run Try.prog W = .ok (.slice a' r.length (cap - 1)) W) ∧ (∀ i, Phr (w.setCell ⟨p, 0, none⟩ (.slice a' r.length (cap - 1))) p N r i ∨ i ≠ ill) := by
  obtain ⟨a, cap, h1, h2, h3, h4⟩ := h
  obtain ⟨b, off, ea, hb, hc⟩ := h2 0 (by simp)
  subst ea
  have hbp := (h4 (by simp) b off rfl).1
  have hbN := (h4 (by simp) b off rfl).2
  have h3' : r.length + 1 ≤ cap := h3
  obtain ⟨a', hsl, ha'⟩ := sls_from b off (r.length + 1) cap 1 (by omega) h3'
  refine ⟨b, off, cap, a', h1, hc, hbp, hsl, fun i => ?_⟩
  by_cases e : i = ill
  · subst e
    refine .inl ⟨a', cap - 1, h1.set 0 _, ?_, by omega, ?_⟩
    · by_cases h5 : 1 < cap
      · rw [ha' h5]
        exact (h2.drop 1).other (fun _ b' off' e => by cases e; exact hbp)
      · have : r = [] := List.length_eq_zero_iff.1 (by omega)
        subst this
        intro j hj
        simp at hj
    · intro h0 b' off' e
      have h5 : 1 < cap := by
        have : r.length ≠ 0 := fun h => h0 (List.length_eq_zero_iff.1 h)
        omega
      rw [ha' h5] at e
      cases e
      exact ⟨hbp, hbN⟩
  · exact .inr e
theorem grown_self (w : World) (p : Nat) : w.grownBy w (some p) := ⟨rfl, rfl, rfl, Nat.le_refl _, fun _ _ _ => rfl⟩
set_option maxHeartbeats 2000000 in
theorem phrase_take_ok (w : World) (p N : Nat) (q : List UInt8) (r : List (List UInt8)) (hl : r.length ≤ 1048576) (h : Phr w p N (q :: r) false) :
    Calls Try.prog 58 #[.pointer (some ⟨p, 0, none⟩)] w fun e w' => e = .returned (.string (bs q)) ∧ Phr w' p N r false ∧ w.grownBy w' (some p) := by
  have CD := hide (phrase_demand w p N (q :: r) false true h)
  obtain ⟨b, off, cap, a', h1, _, _, _, _⟩ := h.more
  have c0 := h1.cell 0 (.slice (some ⟨b, off, none⟩) (r.length + 1) cap) rfl
  have hpos : (0 : Int) < (r.length : Int) + 1 := by omega
  clear h1 h
  go_enter Try.func58, Try.ntmps58
  go_wp2_with fail
  refine CD.out.mono ?_
  rintro e w1 ⟨rfl, hp1, hg1⟩
  obtain ⟨b, off, cap, a', h1, hc, hbp, hsl, hph⟩ := Phr.more (show Phr w1 p N (q :: r) false from hp1)
  have HPH : Hid (Phr (w1.setCell ⟨p, 0, none⟩ (.slice a' r.length (cap - 1))) p N r false) := hide (by rcases hph false with h | h; exact h; exact absurd rfl h)
  have HG := hide (grown_trans hg1 (grown_cell w1 p 0 (.slice a' r.length (cap - 1))))
  have d0 := h1.cell 0 (.slice (some ⟨b, off, none⟩) (r.length + 1) cap) rfl
  have d1 := h1.cell 1 (.bool false) rfl
  have df := h1.frozen
  have hlen : 0 < r.length + 1 := by omega
  clear h1 hph hp1 hg1 CD c0
  go_wp2_with fail
  go_ret
  exact ⟨rfl, HPH.out, HG.out⟩
set_option maxHeartbeats 2000000 in
theorem phrase_take_no (w : World) (p N : Nat) (ps : List (List UInt8)) (ill : Bool) (hl : ps.length ≤ 1048576) (h : Phr w p N ps ill) (hno : ill = true ∨ ps = []) :
    Calls Try.prog 58 #[.pointer (some ⟨p, 0, none⟩)] w fun e w' => e = .returned (.string (bs [])) ∧ Phr w' p N ps true ∧ w.grownBy w' (some p) := by
  have CD : Hid (Calls Try.prog 34 #[.pointer (some ⟨p, 0, none⟩), .bool (decide (0 < ps.length))] w fun e w' => e = .returned (.tuple #[]) ∧ Phr w' p N ps true ∧ w.grownBy w' (some p)) := hide (by
    have hd := phrase_demand w p N ps ill (decide (0 < ps.length)) h
    have e : (ill || !decide (0 < ps.length)) = true := by
      rcases hno with rfl | rfl
      · rfl
      · simp
    rw [e] at hd
    exact hd)
  obtain ⟨a, cap, h1, _⟩ := h
  have c0 := h1.cell 0 (.slice a ps.length cap) rfl
  clear h1 hno
  go_enter Try.func58, Try.ntmps58
  go_wp2_with fail
  refine CD.out.mono ?_
  rintro e w1 ⟨rfl, hp1, hg1⟩
  have HP := hide hp1
  obtain ⟨a, cap, h1, _⟩ := hp1
  have d1 := h1.cell 1 (.bool true) rfl
  clear h1 CD c0
  go_wp2_with fail
  go_ret
  exact ⟨rfl, HP.out, hg1⟩
set_option maxHeartbeats 2000000 in
theorem phrase_passes_yes (w : World) (p N : Nat) (q : List UInt8) (r : List (List UInt8)) (hl : r.length ≤ 1048576) (h : Phr w p N (q :: r) false) :
    Calls Try.prog 32 #[.pointer (some ⟨p, 0, none⟩), .string (bs q)] w fun e w' => e = .returned (.bool true) ∧ Phr w' p N r false ∧ w.grownBy w' (some p) := by
  obtain ⟨b, off, cap, a', h1, hc, hbp, hsl, hph⟩ := h.more
  have HPH : Hid (Phr (w.setCell ⟨p, 0, none⟩ (.slice a' r.length (cap - 1))) p N r false) := hide (by rcases hph false with h | h; exact h; exact absurd rfl h)
  have d0 := h1.cell 0 (.slice (some ⟨b, off, none⟩) (r.length + 1) cap) rfl
  have d1 := h1.cell 1 (.bool false) rfl
  have df := h1.frozen
  have hlen : 0 < r.length + 1 := by omega
  have hz : ((r.length : Int) + 1 == 0) = false := by simp; omega
  have hq : ((bs q).toList == (bs q).toList) = true := by simp
  clear h1 hph h
  go_enter Try.func32, Try.ntmps32
  go_wp2_with fail
  go_ret
  exact ⟨rfl, HPH.out, grown_cell _ _ _ _⟩
set_option maxHeartbeats 2000000 in
theorem phrase_passes_no (w : World) (p N : Nat) (ps : List (List UInt8)) (ill : Bool) (word : List UInt8) (hl : ps.length ≤ 1048576) (h : Phr w p N ps ill) (hno : ill = true ∨ ps = [] ∨ ∃ q r, ps = q :: r ∧ q ≠ word) :
    Calls Try.prog 32 #[.pointer (some ⟨p, 0, none⟩), .string (bs word)] w fun e w' => e = .returned (.bool false) ∧ w' = w := by
  cases ill with
  | true =>
    obtain ⟨a, cap, h1, _⟩ := h
    have d1 := h1.cell 1 (.bool true) rfl
    clear h1 hno
    go_enter Try.func32, Try.ntmps32
    go_wp2_with fail
    go_ret
    exact ⟨rfl, rfl⟩
  | false =>
    rcases hno with hno | rfl | ⟨q, r, rfl, hq⟩
    · cases hno
    · obtain ⟨a, cap, h1, _⟩ := h
      have d0 := h1.cell 0 (.slice a 0 cap) rfl
      have d1 := h1.cell 1 (.bool false) rfl
      clear h1
      go_enter Try.func32, Try.ntmps32
      go_wp2_with fail
      go_ret
      exact ⟨rfl, rfl⟩
    · obtain ⟨b, off, cap, a', h1, hc, hbp, hsl, hph⟩ := h.more
      have d0 := h1.cell 0 (.slice (some ⟨b, off, none⟩) (r.length + 1) cap) rfl
      have d1 := h1.cell 1 (.bool false) rfl
      have hlen : 0 < r.length + 1 := by omega
      have hl' : r.length + 1 ≤ 1048576 := hl
      have hz : ((r.length : Int) + 1 == 0) = false := by simp; omega
      have hqq : ((bs q).toList == (bs word).toList) = false := by rw [bs_toList, bs_toList]; simpa using hq
      clear h1 hph h hq
      go_enter Try.func32, Try.ntmps32
      go_wp2_with fail
      go_ret
      exact ⟨rfl, rfl⟩
set_option maxHeartbeats 2000000 in
theorem phrase_isRead (w : World) (p N : Nat) (ps : List (List UInt8)) (ill : Bool) (hl : ps.length ≤ 1048576) (h : Phr w p N ps ill) :
    Calls Try.prog 36 #[.pointer (some ⟨p, 0, none⟩)] w fun e w' => e = .returned (.bool (!ill && ps.isEmpty)) ∧ w' = w := by
  obtain ⟨a, cap, h1, _⟩ := h
  have d0 := h1.cell 0 (.slice a ps.length cap) rfl
  have d1 := h1.cell 1 (.bool ill) rfl
  clear h1
  cases ill with
  | true =>
    go_enter Try.func36, Try.ntmps36
    go_wp2_with fail
    go_ret
    exact ⟨rfl, rfl⟩
  | false =>
    cases ps with
    | nil =>
      have d0' : w.cell? ⟨p, 0, none⟩ = some (.slice a 0 cap) := d0
      clear d0
      go_enter Try.func36, Try.ntmps36
      go_wp2_with fail
      go_ret
      exact ⟨rfl, rfl⟩
    | cons q r =>
      have d0' : w.cell? ⟨p, 0, none⟩ = some (.slice a (r.length + 1) cap) := d0
      have hz : ((r.length : Int) + 1 == 0) = false := by simp; omega
      clear d0
      go_enter Try.func36, Try.ntmps36
      go_wp2_with fail
      go_ret
      exact ⟨rfl, rfl⟩
theorem Phr.other {w : World} {p N c i : Nat} {ps : List (List UInt8)} {ill : Bool} {y : Value} (h : Phr w p N ps ill) (hc : c ≠ p) (hN : N ≤ c) : Phr (w.setCell ⟨c, i, none⟩ y) p N ps ill := by
  obtain ⟨a, cap, h1, h2, h3, h4⟩ := h
  exact ⟨a, cap, h1.other (fun e => hc e.symm) _ _, h2.other (fun h0 b off e => by have := (h4 h0 b off e).2; omega), h3, h4⟩
end Go.Proofs.Ytgegnkboibgbgaa
