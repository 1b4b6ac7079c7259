/-
Contracts of functions of this seat.
-/
import Derived.Test.YthoinddlnmailaaDoorRows
import Derived.WalkKit
import Derived.ProofKit
import Derived.OpenShut
import Derived.Test.YthoinddlnmailaaDoorFrb
namespace Go.Proofs.YthoinddlnmailaaDoor
open Go.ChangeShapes Go.WideShapes Go.ChangeAt Go.RowKit
set_option linter.unusedVariables false
set_option maxRecDepth 100000
/-- What an Arp's numbers must be. -/
def arOK (o m s u t : Int) : Bool := (decide (o = 1) || decide (o = 2)) && macOKB m && macOKB u && adrB s && adrB t
def arHead : List Int := [0, 1, 8, 0, 6, 4]
def arBody (o m s u t : Int) : List Int := arHead ++ putL o 2 ++ putL m 6 ++ putL s 4 ++ putL u 6 ++ putL t 4
def arC (o m s u t : Int) : Int := if arOK o m s u t then 0 else 1
def arL (o m s u t : Int) : List Int := if arOK o m s u t then arBody o m s u t else []
theorem arBody_len (o m s u t : Int) : (arBody o m s u t).length = 28 := by unfold arBody arHead; simp [putL_len]
theorem arL_len (o m s u t : Int) : (arL o m s u t).length ≤ 28 := by
  unfold arL
  split
  · rw [arBody_len]; omega
  · simp
theorem arOK_parts {o m s u t : Int} (h : arOK o m s u t = true) : (o = 1 ∨ o = 2) ∧ macOKB m = true ∧ macOKB u = true ∧ adrB s = true ∧ adrB t = true := by
  unfold arOK at h
  simp only [Bool.and_eq_true, Bool.or_eq_true, decide_eq_true_eq] at h
  exact ⟨h.1.1.1.1, h.1.1.1.2, h.1.1.2, h.1.2, h.2⟩
theorem five_cells {w : World} {g ty : Nat} {a b c d e : Value} (h : w.heap[g]? = some (.cells #[a, b, c, d, e] ty)) : w.cell? ⟨g, 0, none⟩ = some a ∧ w.cell? ⟨g, 1, none⟩ = some b ∧ w.cell? ⟨g, 2, none⟩ = some c ∧ w.cell? ⟨g, 3, none⟩ = some d ∧ w.cell? ⟨g, 4, none⟩ = some e ∧ ∀ o, w.frozen? ⟨g, o, none⟩ = false :=
  ⟨cell_of_row w g 0 _ _ _ h, cell_of_row w g 1 _ _ _ h, cell_of_row w g 2 _ _ _ h, cell_of_row w g 3 _ _ _ h, cell_of_row w g 4 _ _ _ h, fun o => frozen_of_row w g o _ _ h⟩
/-- The Arp's box is as it was laid. -/
abbrev BoxA (w0 w : World) (o m s u t : Int) : Prop := Below w0.heap.size w0 w ∧ w0.heap.size < w.heap.size ∧ w.cell? ⟨w0.heap.size, 0, none⟩ = some (.int .i64 o) ∧ w.cell? ⟨w0.heap.size, 1, none⟩ = some (.int .i64 m) ∧ w.cell? ⟨w0.heap.size, 2, none⟩ = some (.int .i64 s) ∧ w.cell? ⟨w0.heap.size, 3, none⟩ = some (.int .i64 u) ∧ w.cell? ⟨w0.heap.size, 4, none⟩ = some (.int .i64 t)
theorem BoxA.start (w0 : World) (o m s u t : Int) (ty : Nat) : BoxA w0 (w0.alloc (.cells #[.int .i64 o, .int .i64 m, .int .i64 s, .int .i64 u, .int .i64 t] ty)) o m s u t := by
  obtain ⟨c0, c1, c2, c3, c4, _⟩ := five_cells (heap_alloc_new w0 (.cells #[.int .i64 o, .int .i64 m, .int .i64 s, .int .i64 u, .int .i64 t] ty))
  exact ⟨(Below.refl _ _).alloc (Nat.le_refl _) _, by rw [World.size_alloc]; omega, c0, c1, c2, c3, c4⟩
theorem BoxA.keep {w0 w w' : World} {C : Nat} {o m s u t : Int} (h : BoxA w0 w o m s u t) (hb : Below C w w') (hC : w0.heap.size < C) : BoxA w0 w' o m s u t := by
  obtain ⟨h1, h2, c0, c1, c2, c3, c4⟩ := h
  exact ⟨h1.trans (hb.mono (by omega)), Nat.lt_of_lt_of_le h2 hb.size, by rw [hb.cell (p := ⟨w0.heap.size, 0, none⟩) hC]; exact c0, by rw [hb.cell (p := ⟨w0.heap.size, 1, none⟩) hC]; exact c1, by rw [hb.cell (p := ⟨w0.heap.size, 2, none⟩) hC]; exact c2, by rw [hb.cell (p := ⟨w0.heap.size, 3, none⟩) hC]; exact c3, by rw [hb.cell (p := ⟨w0.heap.size, 4, none⟩) hC]; exact c4⟩
theorem BoxA.next {w0 w w' : World} {o m s u t : Int} (h : BoxA w0 w o m s u t) (hb : Below w.heap.size w w') : BoxA w0 w' o m s u t := h.keep hb h.2.1
theorem BoxA.drew {w0 w : World} {o m s u t : Int} (h : BoxA w0 w o m s u t) : BoxA w0 w.drew o m s u t := h.next ((Below.refl _ _).drew)
theorem BoxA.size {w0 w : World} {o m s u t : Int} (h : BoxA w0 w o m s u t) : w0.heap.size ≤ w.heap.size := h.1.size

set_option maxHeartbeats 1000000 in
theorem l04OK_walk (o m s u t : Int) (w : World) :
    Calls Tryd.prog 55 #[.agg #[.int .i64 o, .int .i64 m, .int .i64 s, .int .i64 u, .int .i64 t]] w fun e w' => e = .returned (.bool (arOK o m s u t)) ∧ Below w.heap.size w w' := by
  have hb := BoxA.start w o m s u t 44
  by_cases h1 : o = 1
  · have hq : (o == 1) = true := by rw [beq_iff_eq]; exact h1
    have H1 := hide h1
    clear h1
    cases h2 : macOKB m with
    | false =>
      have HR : Hid (arOK o m s u t = false) := hide (by unfold arOK; simp [H1.out, h2])
      go_enter Tryd.func55, Tryd.ntmps55
      go_wp2_with (first | (go_at_call 66; refine (macOKs_walk _ _).mono ?_; rintro e w' ⟨rfl, rfl⟩) | (go_at_call 75; refine (specAddrOK_walk _ _).mono ?_; rintro e w' ⟨rfl, rfl⟩))
      go_ret
      exact ⟨ret_bool HR.out.symm, hb.1⟩
    | true =>
      cases h3 : macOKB u with
      | false =>
        have HR : Hid (arOK o m s u t = false) := hide (by unfold arOK; simp [H1.out, h2, h3])
        go_enter Tryd.func55, Tryd.ntmps55
        go_wp2_with (first | (go_at_call 66; refine (macOKs_walk _ _).mono ?_; rintro e w' ⟨rfl, rfl⟩) | (go_at_call 75; refine (specAddrOK_walk _ _).mono ?_; rintro e w' ⟨rfl, rfl⟩))
        go_ret
        exact ⟨ret_bool HR.out.symm, hb.1⟩
      | true =>
        cases h4 : adrB s with
        | false =>
          have HR : Hid (arOK o m s u t = false) := hide (by unfold arOK; simp [H1.out, h2, h3, h4])
          go_enter Tryd.func55, Tryd.ntmps55
          go_wp2_with (first | (go_at_call 66; refine (macOKs_walk _ _).mono ?_; rintro e w' ⟨rfl, rfl⟩) | (go_at_call 75; refine (specAddrOK_walk _ _).mono ?_; rintro e w' ⟨rfl, rfl⟩))
          go_ret
          exact ⟨ret_bool HR.out.symm, hb.1⟩
        | true =>
          cases h5 : adrB t with
          | false =>
            have HR : Hid (arOK o m s u t = false) := hide (by unfold arOK; simp [H1.out, h2, h3, h4, h5])
            go_enter Tryd.func55, Tryd.ntmps55
            go_wp2_with (first | (go_at_call 66; refine (macOKs_walk _ _).mono ?_; rintro e w' ⟨rfl, rfl⟩) | (go_at_call 75; refine (specAddrOK_walk _ _).mono ?_; rintro e w' ⟨rfl, rfl⟩))
            go_ret
            exact ⟨ret_bool HR.out.symm, hb.1⟩
          | true =>
            have HR : Hid (arOK o m s u t = true) := hide (by unfold arOK; simp [H1.out, h2, h3, h4, h5])
            go_enter Tryd.func55, Tryd.ntmps55
            go_wp2_with (first | (go_at_call 66; refine (macOKs_walk _ _).mono ?_; rintro e w' ⟨rfl, rfl⟩) | (go_at_call 75; refine (specAddrOK_walk _ _).mono ?_; rintro e w' ⟨rfl, rfl⟩))
            go_ret
            exact ⟨ret_bool HR.out.symm, hb.1⟩
  · have hq : (o == 1) = false := by rw [beq_eq_false_iff_ne]; exact h1
    by_cases h6 : o = 2
    · have hq2 : (o == 2) = true := by rw [beq_iff_eq]; exact h6
      have H6 := hide h6
      clear h6
      cases h2 : macOKB m with
      | false =>
        have HR : Hid (arOK o m s u t = false) := hide (by unfold arOK; simp [H6.out, h2])
        go_enter Tryd.func55, Tryd.ntmps55
        go_wp2_with (first | (go_at_call 66; refine (macOKs_walk _ _).mono ?_; rintro e w' ⟨rfl, rfl⟩) | (go_at_call 75; refine (specAddrOK_walk _ _).mono ?_; rintro e w' ⟨rfl, rfl⟩))
        go_ret
        exact ⟨ret_bool HR.out.symm, hb.1⟩
      | true =>
        cases h3 : macOKB u with
        | false =>
          have HR : Hid (arOK o m s u t = false) := hide (by unfold arOK; simp [H6.out, h2, h3])
          go_enter Tryd.func55, Tryd.ntmps55
          go_wp2_with (first | (go_at_call 66; refine (macOKs_walk _ _).mono ?_; rintro e w' ⟨rfl, rfl⟩) | (go_at_call 75; refine (specAddrOK_walk _ _).mono ?_; rintro e w' ⟨rfl, rfl⟩))
          go_ret
          exact ⟨ret_bool HR.out.symm, hb.1⟩
        | true =>
          cases h4 : adrB s with
          | false =>
            have HR : Hid (arOK o m s u t = false) := hide (by unfold arOK; simp [H6.out, h2, h3, h4])
            go_enter Tryd.func55, Tryd.ntmps55
            go_wp2_with (first | (go_at_call 66; refine (macOKs_walk _ _).mono ?_; rintro e w' ⟨rfl, rfl⟩) | (go_at_call 75; refine (specAddrOK_walk _ _).mono ?_; rintro e w' ⟨rfl, rfl⟩))
            go_ret
            exact ⟨ret_bool HR.out.symm, hb.1⟩
          | true =>
            cases h5 : adrB t with
            | false =>
              have HR : Hid (arOK o m s u t = false) := hide (by unfold arOK; simp [H6.out, h2, h3, h4, h5])
              go_enter Tryd.func55, Tryd.ntmps55
              go_wp2_with (first | (go_at_call 66; refine (macOKs_walk _ _).mono ?_; rintro e w' ⟨rfl, rfl⟩) | (go_at_call 75; refine (specAddrOK_walk _ _).mono ?_; rintro e w' ⟨rfl, rfl⟩))
              go_ret
              exact ⟨ret_bool HR.out.symm, hb.1⟩
            | true =>
              have HR : Hid (arOK o m s u t = true) := hide (by unfold arOK; simp [H6.out, h2, h3, h4, h5])
              go_enter Tryd.func55, Tryd.ntmps55
              go_wp2_with (first | (go_at_call 66; refine (macOKs_walk _ _).mono ?_; rintro e w' ⟨rfl, rfl⟩) | (go_at_call 75; refine (specAddrOK_walk _ _).mono ?_; rintro e w' ⟨rfl, rfl⟩))
              go_ret
              exact ⟨ret_bool HR.out.symm, hb.1⟩
    · have hq2 : (o == 2) = false := by rw [beq_eq_false_iff_ne]; exact h6
      have HR : Hid (arOK o m s u t = false) := hide (by unfold arOK; simp [h1, h6])
      go_enter Tryd.func55, Tryd.ntmps55
      go_wp2_with (first | (go_at_call 66; refine (macOKs_walk _ _).mono ?_; rintro e w' ⟨rfl, rfl⟩) | (go_at_call 75; refine (specAddrOK_walk _ _).mono ?_; rintro e w' ⟨rfl, rfl⟩))
      go_ret
      exact ⟨ret_bool HR.out.symm, hb.1⟩
theorem l04Head_walk (w : World) :
    Calls Tryd.prog 54 #[] w fun e w' => ∃ u : Value, e = .returned u ∧ OwnB w' w.heap.size u arHead ∧ Below w.heap.size w w' := by
  go_enter Tryd.func54, Tryd.ntmps54
  go_wp2_with fail
  go_ret
  exact ⟨_, rfl, ⟨World.ownsRow_lit (base := w.heap.size) (e := 5) (size := 1) w #[.int .u8 0, .int .u8 1, .int .u8 8, .int .u8 0, .int .u8 6, .int .u8 4] 6 (Nat.le_refl _) (by decide) rfl, by unfold arHead; simp⟩, (Below.refl _ _).alloc (Nat.le_refl _) _⟩
end Go.Proofs.YthoinddlnmailaaDoor
