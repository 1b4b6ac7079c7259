/-
Contracts of functions of this seat.
-/
import Derived.Test.YtgegnkboibgbgaaRows
import Derived.WalkKit
import Derived.ProofKit
import Derived.OpenShut
import Derived.Test.YtgegnkboibgbgaaPhr
namespace Go.Proofs.Ytgegnkboibgbgaa
open Go.ChangeShapes Go.WideShapes Go.ChangeAt Go.RowKit
set_option linter.unusedVariables false
set_option maxRecDepth 100000
/-- What take tells, and what is left then. -/
def tkW : List (List UInt8) → Bool → List UInt8
  | q :: _, false => q
  | _, _ => []
def tkR : List (List UInt8) → Bool → List (List UInt8)
  | _ :: r, false => r
  | ps, _ => ps
def tkI : List (List UInt8) → Bool → Bool
  | _ :: _, false => false
  | _, _ => true
theorem phrase_take (w : World) (p N : Nat) (ps : List (List UInt8)) (ill : Bool) (hl : ps.length ≤ 1048576) (h : Phr w p N ps ill) :
    Calls Try.prog 58 #[.pointer (some ⟨p, 0, none⟩)] w fun e w' => e = .returned (.string (bs (tkW ps ill))) ∧ Phr w' p N (tkR ps ill) (tkI ps ill) ∧ w.grownBy w' (some p) := by
  cases ill with
  | true => 
    have e1 : tkW ps true = [] := by cases ps <;> rfl
    have e2 : tkR ps true = ps := by cases ps <;> rfl
    have e3 : tkI ps true = true := by cases ps <;> rfl
    rw [e1, e2, e3]
    exact phrase_take_no w p N ps true hl h (.inl rfl)
  | false =>
    cases ps with
    | nil => exact phrase_take_no w p N [] false hl h (.inr rfl)
    | cons q r => exact phrase_take_ok w p N q r (by simp at hl; omega) h
theorem tkW_len {ps : List (List UInt8)} {ill : Bool} (hw : ∀ q ∈ ps, q.length ≤ 1048576) : (tkW ps ill).length ≤ 1048576 := by
  cases ill with
  | true => cases ps <;> exact Nat.zero_le _
  | false => cases ps with
    | nil => exact Nat.zero_le _
    | cons q r => exact hw q (by simp)
set_option maxHeartbeats 2000000 in
theorem phrase_prefix (w : World) (p N : Nat) (ps : List (List UInt8)) (ill : Bool) (hl : ps.length ≤ 1048576) (hw : ∀ q ∈ ps, q.length ≤ 1048576) (hN : N ≤ w.heap.size) (h : Phr w p N ps ill) :
    Calls Try.prog 31 #[.pointer (some ⟨p, 0, none⟩)] w fun e w' => e = .returned (.agg #[.int .i64 (pfA (tkW ps ill)), .int .i64 (pfB (tkW ps ill))]) ∧ Phr w' p N (tkR ps ill) (tkI ps ill || !pfOK (tkW ps ill)) ∧ w.grownBy w' (some p) := by
  have CT := hide (fun W (hW : Phr W p N ps ill) => phrase_take W p N ps ill hl hW)
  have HL := hide (tkW_len (ill := ill) hw)
  have HP0 := hide (h.next ((Below.refl w.heap.size w).alloc (Nat.le_refl _) (.cells #[.int .i64 0, .int .i64 0] 37)))
  have HG0 : Hid (w.grownBy (w.alloc (.cells #[.int .i64 0, .int .i64 0] 37)) (some p)) := hide (World.grownBy_alloc w _ _)
  have HR0 : Hid (HoldV (w.alloc (.cells #[.int .i64 0, .int .i64 0] 37)) w.heap.size #[.int .i64 0, .int .i64 0] 37) := hide (heap_alloc_new _ _)
  have hpw : p < w.heap.size := h.lt
  have HE : Hid ((pfC (tkW ps ill) == 0) = pfOK (tkW ps ill)) := hide (by unfold pfC; cases pfOK (tkW ps ill) <;> rfl)
  generalize tkW ps ill = W0 at *
  generalize tkR ps ill = R0 at *
  generalize tkI ps ill = I0 at *
  clear h hw hl
  go_enter Try.func31, Try.ntmps31
  go_wp2_with fail
  refine (CT.out _ HP0.out).mono ?_
  rintro e w1 ⟨rfl, hp1, hg1⟩
  have HG1 := hide (grown_trans HG0.out hg1)
  have HR1 := hide ((show w1.heap[w.heap.size]? = _ from hg1.block _ HR0.out.lt (by intro e; cases e; omega)).trans HR0.out)
  have HP1 := hide hp1
  clear hg1 hp1 CT HP0 HG0 HR0
  go_wp2_with fail
  refine (pref_walk W0 w1 HL.out).mono ?_
  rintro e w2 ⟨rfl, hb2⟩
  generalize hA : pfA W0 = A at *
  generalize hB : pfB W0 = B at *
  have HAB := hide (And.intro hA hB)
  clear hA hB
  have HBA := hide (hb2.trans (((Below.refl w2.heap.size w2).alloc (Nat.le_refl _) (.cells #[.int .i64 A, .int .i64 B] 37)).mono hb2.size))
  have HP2 := hide (HP1.out.next HBA.out)
  have HG2 := hide (grown_below HG1.out HBA.out)
  have HR2 := hide (HoldV.next (show HoldV w1 w.heap.size #[.int .i64 0, .int .i64 0] 37 from HR1.out) HBA.out)
  have HX2 : Hid (HoldV (w2.alloc (.cells #[.int .i64 A, .int .i64 B] 37)) w2.heap.size #[.int .i64 A, .int .i64 B] 37) := hide (heap_alloc_new _ _)
  have CD := hide (phrase_demand _ p N R0 I0 (pfOK W0) HP2.out)
  have hxp : w2.heap.size ≠ p := by have := HP1.out.lt; have := hb2.size; omega
  have hxw : w.heap.size < w2.heap.size := by have := (show HoldV w1 w.heap.size #[.int .i64 0, .int .i64 0] 37 from HR1.out).lt; have := hb2.size; omega
  have hE := HE.out
  clear hb2 HBA HP1 HG1 HR1
  go_wp2_with fail
  refine CD.out.mono ?_
  rintro e w3 ⟨rfl, hp3, hg3⟩
  have HG3 := hide (grown_trans HG2.out hg3)
  have HX3 := hide ((show w3.heap[w2.heap.size]? = _ from hg3.block _ HX2.out.lt (by intro e; cases e; exact hxp rfl)).trans HX2.out)
  have HR3 := hide ((show w3.heap[w.heap.size]? = _ from hg3.block _ HR2.out.lt (by intro e; cases e; omega)).trans HR2.out)
  have x0 := HoldV.cell (show HoldV w3 w2.heap.size #[.int .i64 A, .int .i64 B] 37 from HX3.out) 0 (.int .i64 A) rfl
  have x1 := HoldV.cell (show HoldV w3 w2.heap.size #[.int .i64 A, .int .i64 B] 37 from HX3.out) 1 (.int .i64 B) rfl
  have r0 := HoldV.cell (show HoldV w3 w.heap.size #[.int .i64 0, .int .i64 0] 37 from HR3.out) 0 (.int .i64 0) rfl
  have r1 := HoldV.cell (show HoldV w3 w.heap.size #[.int .i64 0, .int .i64 0] 37 from HR3.out) 1 (.int .i64 0) rfl
  have rf := HoldV.frozen (show HoldV w3 w.heap.size #[.int .i64 0, .int .i64 0] 37 from HR3.out)
  have HP3 := hide ((hp3.other (i := 0) (y := .int .i64 A) (show w.heap.size ≠ p by omega) hN).other (i := 1) (y := .int .i64 B) (show w.heap.size ≠ p by omega) hN)
  clear hp3 hg3 hE HE
  go_wp2_with fail
  exact bodyPost_ret (v := .agg #[.int .i64 A, .int .i64 B]) (by simp [results, Try.results31, go_sem, r0, r1]) rfl ⟨by rw [HAB.out.1, HAB.out.2], HP3.out, grown_set (grown_set HG3.out (p := ⟨w.heap.size, 0, none⟩) (Nat.le_refl _) _) (p := ⟨w.heap.size, 1, none⟩) (Nat.le_refl _) _⟩
end Go.Proofs.Ytgegnkboibgbgaa
