/-
Contracts of functions of this seat.
-/
import Derived.Test.YtcnfnimgpiaamaaDoorRows
import Derived.WalkKit
import Derived.ProofKit
import Derived.OpenShut
import Derived.Test.YtcnfnimgpiaamaaDoorSw5
import Derived.Test.YtcnfnimgpiaamaaDoorSw3
namespace Go.Proofs.YtcnfnimgpiaamaaDoor
open Go.ChangeShapes Go.WideShapes Go.ChangeAt Go.RowKit
set_option linter.unusedVariables false
set_option maxRecDepth 100000
def ltrN (k : Nat) : Nat := [83, 70, 82, 80, 65, 85].getD k 0
theorem ltrN_at (k : Nat) (h : k < 6) : ((lettersB[k]'(show k < 6 from h)).toNat) = ltrN k ∧ ltrN k ≤ 127 ∧ UInt8.ofNat (ltrN k) = ltrB k := by
  rcases (show k = 0 ∨ k = 1 ∨ k = 2 ∨ k = 3 ∨ k = 4 ∨ k = 5 by omega) with rfl | rfl | rfl | rfl | rfl | rfl <;> exact ⟨rfl, by decide, rfl⟩
theorem next_letter (w : World) (b k : Nat) (ty : TypeId) (h : k < 6) (hk : w.heap[b]? = some (.stringIter lettersB k)) : (Instr.next (.pointer (some ⟨b, 0, none⟩)) true ty).run Tryd.prog w = .ok (.tuple #[.bool true, .int .i64 k, .int .i32 (ltrN k)]) (w.iterAt b lettersB (k + 1)) := by
  have e := Lib.run_next_ascii_at (P := Tryd.prog) w b lettersB k ty hk (show k < 6 from h) (by rw [(ltrN_at k h).1]; have := (ltrN_at k h).2.1; omega)
  rw [(ltrN_at k h).1] at e
  exact e
set_option maxHeartbeats 2000000 in
theorem flagOf_walk (k : Nat) (h : k < 6) (w : World) : Calls Tryd.prog 105 #[.int .i32 (ltrN k)] w fun e w' => e = .returned (.int .i64 (bitL k)) ∧ w' = w := by
  rcases (show k = 0 ∨ k = 1 ∨ k = 2 ∨ k = 3 ∨ k = 4 ∨ k = 5 by omega) with rfl | rfl | rfl | rfl | rfl | rfl
  all_goals
    go_enter Tryd.func105, Tryd.ntmps105
    go_wp2
    go_ret
    exact ⟨rfl, rfl⟩
/-- The letters of the flags among the first k. -/
def flL (x : Int) : Nat → List UInt8
  | 0 => []
  | k + 1 => if flagB x (bitL k) then flL x k ++ [ltrB k] else flL x k
theorem flL_len (x : Int) : ∀ k, (flL x k).length ≤ k
  | 0 => Nat.le_refl _
  | k + 1 => by
    have ih := flL_len x k
    unfold flL; split
    · rw [List.length_append]; simp; omega
    · omega
def flT (x : Int) : ByteArray := if flL x 6 = [] then ⟨#[45]⟩ else ⟨(flL x 6).toArray⟩
theorem Bld.iterAt {w : World} {B b k : Nat} {l : List UInt8} {s : ByteArray} {p : Nat} (h : Bld w B b l) (hk : w.heap[k]? = some (.stringIter s p)) (p' : Nat) : Bld (w.iterAt k s p') B b l := by
  have key : ∀ q, Lib.BuilderAt bdT 5 B b q (Lib.byteCells l) w → Lib.BuilderAt bdT 5 B b q (Lib.byteCells l) (w.iterAt k s p') := by
    rintro q ⟨hB, v, hb, ho, hne⟩
    refine ⟨hB, v, ?_, ⟨ho.1, ?_⟩, hne⟩
    · rw [Lib.iterAt_other w k b s p' (fun e => by rw [e, hk] at hb; cases hb)]; exact hb
    · rcases ho.2 with h5 | ⟨g, cap, cur, hv, hBg, hg, h6⟩
      · exact .inl h5
      · refine .inr ⟨g, cap, cur, hv, hBg, ?_, h6⟩
        rw [Lib.iterAt_other w k g s p' (fun e => by rw [e, hk] at hg; cases hg)]; exact hg
  rcases h with h | h
  · exact .inl (key _ h)
  · exact .inr (key _ h)
set_option maxHeartbeats 8000000 in
/-- showFlags of the program. -/
theorem showFlags_walk (x : Int) (w : World) :
    Calls Tryd.prog 78 #[.int .i64 x] w fun e w' => e = .returned (.string (flT x)) ∧ Below w.heap.size w w' := by
  have HIT : Hid (((w.alloc (.cells #[.pointer none, .slice none 0 0] bdT)).alloc (.stringIter lettersB 0)).heap[w.heap.size + 1]? = some (.stringIter lettersB 0)) := hide (by
    have := heap_alloc_new (w.alloc (.cells #[.pointer none, .slice none 0 0] bdT)) (.stringIter lettersB 0)
    simpa only [World.size_alloc] using this)
  have hb0 : Below w.heap.size w ((w.alloc (.cells #[.pointer none, .slice none 0 0] bdT)).alloc (.stringIter lettersB 0)) := ((Below.refl _ w).alloc (Nat.le_refl _) _).alloc (by rw [World.size_alloc]; omega) _
  have HB0 := hide hb0
  have HBL : Hid (Bld ((w.alloc (.cells #[.pointer none, .slice none 0 0] bdT)).alloc (.stringIter lettersB 0)) w.heap.size w.heap.size []) := hide ((Bld.start w).next ((Below.refl _ _).alloc (Nat.le_refl _) _))
  clear hb0
  go_enter Tryd.func78, Tryd.ntmps78
  go_upto_region 3 with fail
  go_loopw [] (fun wr => ∃ k : Nat, k ≤ 6 ∧ Hid (Bld wr w.heap.size w.heap.size (flL x k)) ∧ Hid (wr.heap[w.heap.size + 1]? = some (.stringIter lettersB k)) ∧ Hid (Below w.heap.size w wr)) (fun wr => 6 - wr.iterPos (w.heap.size + 1))
  case atStart => exact ⟨0, by omega, HBL, HIT, HB0⟩
  case round =>
    obtain ⟨k, hk, HL, HI, HB⟩ := hrel
    clear HBL HIT HB0
    have HM : Hid (wr.iterPos (w.heap.size + 1) = k) := hide (by simp only [World.iterPos, HI.out])
    have HS : Hid (w.heap.size + 1 < wr.heap.size) := hide (Array.getElem?_eq_some_iff.1 HI.out).1
    by_cases hlt : k < 6
    · have hnx : ∀ ty, (Instr.next (.pointer (some ⟨w.heap.size + 1, 0, none⟩)) true ty).run Tryd.prog wr = _ := fun ty => next_letter wr (w.heap.size + 1) k ty hlt HI.out
      have HL2 := hide (HL.out.iterAt HI.out (k + 1))
      have HI2 := hide (Lib.iterAt_heap wr (w.heap.size + 1) lettersB k (k + 1) HI.out)
      have HB2 := hide (Lib.below_iterAt HB.out (k := w.heap.size + 1) (by omega) lettersB (k + 1))
      have HS2 : Hid (w.heap.size ≤ (wr.iterAt (w.heap.size + 1) lettersB (k + 1)).heap.size) := hide (by rw [Lib.iterAt_size]; have := HS.out; omega)
      have CF := hide (fun W => flagOf_walk k hlt W)
      have HE : Hid (flL x (k + 1) = if flagB x (bitL k) then flL x k ++ [ltrB k] else flL x k) := hide rfl
      have hlen := flL_len x k
      obtain ⟨_, h127, hu8⟩ := ltrN_at k hlt
      rw [← hu8] at HE
      have CW := hide (fun W (hW : w.heap.size ≤ W.heap.size) (h : Bld W w.heap.size w.heap.size (flL x k)) => wrune_walk w.heap.size w.heap.size (flL x k) (ltrN k) h127 W h (by omega) hW)
      clear HL HI HB hu8
      generalize ltrN k = lc at *
      generalize flL x k = lk at *
      cases hf : flagB x (bitL k) with
      | false =>
        rw [hf] at HE
        unfold flagB at hf
        generalize bitL k = bl at *
        go_wp2_with fail
        generalize wr.iterAt (w.heap.size + 1) lettersB (k + 1) = W2 at *
        refine (CF.out _).mono ?_
        rintro e w3 ⟨rfl, rfl⟩
        clear hnx
        go_wp2_with fail
        exact ⟨⟨k + 1, by omega, by rw [HE.out]; exact HL2, HI2, HB2⟩, by rw [HM.out]; simp only [World.iterPos, HI2.out]; omega⟩
      | true =>
        rw [hf] at HE
        unfold flagB at hf
        generalize bitL k = bl at *
        go_wp2_with fail
        generalize wr.iterAt (w.heap.size + 1) lettersB (k + 1) = W2 at *
        refine (CF.out _).mono ?_
        rintro e w3 ⟨rfl, rfl⟩
        clear hnx
        go_wp2_with fail
        refine (CW.out _ HS2.out HL2.out).mono ?_
        rintro e w4 ⟨rfl, h1, h2, h3⟩
        have HL4 := hide h1
        have HB4 := hide (HB2.out.trans h2)
        have HI4 := hide (h3 _ _ _ HI2.out)
        clear h1 h2 h3 CW HL2 HB2 HI2
        go_wp2_with fail
        exact ⟨⟨k + 1, by omega, by rw [HE.out]; exact HL4, HI4, HB4⟩, by rw [HM.out]; simp only [World.iterPos, HI4.out]; omega⟩
    · obtain rfl : k = 6 := by omega
      have hnx : ∀ ty, (Instr.next (.pointer (some ⟨w.heap.size + 1, 0, none⟩)) true ty).run Tryd.prog wr = _ := fun ty => Lib.run_next_end_at wr (w.heap.size + 1) lettersB 6 ty HI.out (by decide)
      have CL := hide (bld_len w.heap.size w.heap.size (flL x 6) wr HL.out)
      have CS := hide (bld_string w.heap.size w.heap.size (flL x 6) wr HL.out (by have := HS.out; omega))
      have HT : Hid (flT x = if flL x 6 = [] then ⟨#[45]⟩ else ⟨(flL x 6).toArray⟩) := hide rfl
      generalize flL x 6 = l6 at *
      by_cases h0 : l6 = []
      · subst h0
        go_wp2_with fail
        refine CL.out.mono ?_
        rintro e w3 ⟨rfl, rfl⟩
        clear hnx
        go_wp2_with fail
        go_ret
        exact ⟨by rw [HT.out]; rfl, HB.out⟩
      · have hl0 : ((l6.length : Int) == 0) = false := beq_eq_false_iff_ne.2 (by intro e; exact h0 (List.length_eq_zero_iff.1 (by omega)))
        have H0 := hide h0
        clear h0
        go_wp2_with fail
        refine CL.out.mono ?_
        rintro e w3 ⟨rfl, rfl⟩
        clear hnx
        go_wp2_with fail
        refine CS.out.mono ?_
        rintro e w4 ⟨rfl, h2⟩
        have HB4 := hide (HB.out.trans h2)
        clear h2
        go_wp2_with fail
        go_ret
        exact ⟨by rw [HT.out, if_neg H0.out]; rfl, HB4.out⟩
end Go.Proofs.YtcnfnimgpiaamaaDoor
