/-
Contracts of functions of this seat.
-/
import Derived.Test.YtgegnkboibgbgaaRows
import Derived.WalkKit
import Derived.ProofKit
import Derived.OpenShut
import Derived.Test.YtgegnkboibgbgaaRds
import Derived.Test.YtgegnkboibgbgaaSds
namespace Go.Proofs.Ytgegnkboibgbgaa
open Go.ChangeShapes Go.WideShapes Go.ChangeAt Go.RowKit
set_option linter.unusedVariables false
set_option maxRecDepth 100000
abbrev kFrom : List UInt8 := [102, 114, 111, 109]
abbrev kTo : List UInt8 := [116, 111]
abbrev lActs : List UInt8 := [45, 32, 112, 97, 115, 115, 32, 100, 114, 111, 112, 32, 114, 101, 106, 101, 99, 116]
abbrev lDirs : List UInt8 := [45, 32, 105, 110, 32, 111, 117, 116, 32, 98, 111, 116, 104]
abbrev lStates : List UInt8 := [97, 110, 121, 32, 110, 101, 119, 32, 107, 110, 111, 119, 110, 32, 114, 101, 108, 97, 116, 101, 100, 32, 115, 116, 114, 97, 121]
def ruFin (A D P sa sb sl sh da db dl dh S : Int) : Option (List Int) := if ruOK A D P sa sb sl sh da db dl dh S = true then some [A, D, P, sa, sb, sl, sh, da, db, dl, dh, S] else none
/-- The end of a rule's line: perhaps a state. -/
def ruEnd (A D P sa sb sl sh da db dl dh : Int) : List (List UInt8) → Option (List Int)
  | [] => ruFin A D P sa sb sl sh da db dl dh 0
  | [s] => if placeL (splitL 32 lStates) s 0 < 1 then none else ruFin A D P sa sb sl sh da db dl dh (placeL (splitL 32 lStates) s 0)
  | _ => none
/-- A rule's numbers out of a line's words (written after the model's l09Rule). -/
def ruP : List (List UInt8) → Option (List Int)
  | a :: d :: p :: r => if r.length < 4 then none else match protoQ p with
    | none => none
    | some P => match sideQ kFrom r with
      | none => none
      | some (sa, sb, sl, sh, r1) => match sideQ kTo r1 with
        | none => none
        | some (da, db, dl, dh, r2) => ruEnd (placeL (splitL 32 lActs) a 0) (placeL (splitL 32 lDirs) d 0) P sa sb sl sh da db dl dh r2
  | _ => none
theorem ruFin_len {A D P sa sb sl sh da db dl dh S : Int} {zs : List Int} (h : ruFin A D P sa sb sl sh da db dl dh S = some zs) : zs.length = 12 := by
  unfold ruFin at h
  split at h
  · cases h; rfl
  · cases h
theorem ruEnd_len {A D P sa sb sl sh da db dl dh : Int} {r : List (List UInt8)} {zs : List Int} (h : ruEnd A D P sa sb sl sh da db dl dh r = some zs) : zs.length = 12 := by
  cases r with
  | nil => exact ruFin_len (show ruFin A D P sa sb sl sh da db dl dh 0 = some zs from h)
  | cons s r =>
    cases r with
    | nil =>
      have h' : (if placeL (splitL 32 lStates) s 0 < 1 then none else ruFin A D P sa sb sl sh da db dl dh (placeL (splitL 32 lStates) s 0)) = some zs := h
      by_cases hs : placeL (splitL 32 lStates) s 0 < 1
      · rw [if_pos hs] at h'; cases h'
      · rw [if_neg hs] at h'; exact ruFin_len h'
    | cons s2 r => exact absurd (show (none : Option (List Int)) = some zs from h) (by simp)
theorem ruP_len {ws : List (List UInt8)} {zs : List Int} (h : ruP ws = some zs) : zs.length = 12 := by
  match ws, h with
  | [], h => exact absurd (show (none : Option (List Int)) = some zs from h) (by simp)
  | [_], h => exact absurd (show (none : Option (List Int)) = some zs from h) (by simp)
  | [_, _], h => exact absurd (show (none : Option (List Int)) = some zs from h) (by simp)
  | a :: d :: p :: r, h =>
    simp only [ruP] at h
    by_cases hl : r.length < 4
    · rw [if_pos hl] at h; cases h
    · rw [if_neg hl] at h
      cases hp : protoQ p with
      | none => rw [hp] at h; cases h
      | some P =>
        rw [hp] at h
        cases hs : sideQ kFrom r with
        | none => rw [hs] at h; cases h
        | some v =>
          obtain ⟨sa, sb, sl, sh, r1⟩ := v
          rw [hs] at h
          simp only at h
          cases ht : sideQ kTo r1 with
          | none => rw [ht] at h; cases h
          | some u =>
            obtain ⟨da, db, dl, dh, r2⟩ := u
            rw [ht] at h
            exact ruEnd_len h
/-- What is wanted of reading a rule's words. -/
def LPu (w : World) (ps : List (List UInt8)) (e : Ending) (w' : World) : Prop := ∃ r0 r1 r2 r3 r4 r5 r6 r7 r8 r9 r10 r11 : Int, e = .returned (.tuple #[.agg #[.int .i64 r0, .int .i64 r1, .int .i64 r2, .int .i64 r3, .int .i64 r4, .int .i64 r5, .int .i64 r6, .int .i64 r7, .int .i64 r8, .int .i64 r9, .int .i64 r10, .int .i64 r11], .bool (ruP ps).isSome]) ∧ (∀ v, ruP ps = some v → v = [r0, r1, r2, r3, r4, r5, r6, r7, r8, r9, r10, r11]) ∧ Below w.heap.size w w'
theorem twelve_cells (w : World) (y0 y1 y2 y3 y4 y5 y6 y7 y8 y9 y10 y11 : Int) (t : Nat) : ∀ (j : Nat) u, (ival [y0, y1, y2, y3, y4, y5, y6, y7, y8, y9, y10, y11])[j]? = some u → (w.alloc (.cells #[.int .i64 y0, .int .i64 y1, .int .i64 y2, .int .i64 y3, .int .i64 y4, .int .i64 y5, .int .i64 y6, .int .i64 y7, .int .i64 y8, .int .i64 y9, .int .i64 y10, .int .i64 y11] t)).cell? ((⟨w.heap.size, 0, none⟩ : Addr).add j) = some u := by
  intro j u hu
  have h := fun k => cell_of_row (w.alloc (.cells #[.int .i64 y0, .int .i64 y1, .int .i64 y2, .int .i64 y3, .int .i64 y4, .int .i64 y5, .int .i64 y6, .int .i64 y7, .int .i64 y8, .int .i64 y9, .int .i64 y10, .int .i64 y11] t)) w.heap.size k #[.int .i64 y0, .int .i64 y1, .int .i64 y2, .int .i64 y3, .int .i64 y4, .int .i64 y5, .int .i64 y6, .int .i64 y7, .int .i64 y8, .int .i64 y9, .int .i64 y10, .int .i64 y11] t (0, 0) (heap_alloc_new w _)
  match j with
  | 0 => rw [Addr.add_lit]; exact (h 0).trans hu
  | 1 => rw [Addr.add_lit]; exact (h 1).trans hu
  | 2 => rw [Addr.add_lit]; exact (h 2).trans hu
  | 3 => rw [Addr.add_lit]; exact (h 3).trans hu
  | 4 => rw [Addr.add_lit]; exact (h 4).trans hu
  | 5 => rw [Addr.add_lit]; exact (h 5).trans hu
  | 6 => rw [Addr.add_lit]; exact (h 6).trans hu
  | 7 => rw [Addr.add_lit]; exact (h 7).trans hu
  | 8 => rw [Addr.add_lit]; exact (h 8).trans hu
  | 9 => rw [Addr.add_lit]; exact (h 9).trans hu
  | 10 => rw [Addr.add_lit]; exact (h 10).trans hu
  | 11 => rw [Addr.add_lit]; exact (h 11).trans hu
  | k + 12 => simp [ival] at hu
end Go.Proofs.Ytgegnkboibgbgaa
