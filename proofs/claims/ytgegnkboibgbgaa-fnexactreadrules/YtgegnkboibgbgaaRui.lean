/-
Contracts of functions of this seat.
-/
import Derived.Test.YtgegnkboibgbgaaRows
import Derived.WalkKit
import Derived.ProofKit
import Derived.OpenShut
import Derived.Test.YtgegnkboibgbgaaRu2
namespace Go.Proofs.Ytgegnkboibgbgaa
open Go.ChangeShapes Go.WideShapes Go.ChangeAt Go.RowKit
set_option linter.unusedVariables false
set_option maxRecDepth 100000
set_option maxHeartbeats 4000000 in
theorem readLinesU_long (l : List UInt8) (w : World) (hl : 20000 < l.length) (hl2 : l.length ≤ 1048576) :
    Calls Try.prog 21 #[.string (bs l), .int .i64 64, .func (.func 22) #[] #[]] w fun e w' => RdPu w [] 7 0 e w' := by
  have hsz := bs_size l
  have h1 : (20000 : Int) < ((bs l).size : Int) := by omega
  have H5 := hide (five_allocs w (.cells #[.int .i64 64] 3) (.cells #[.func (.func 22) #[] #[]] 47) (.slice none 0 0) (.int .i64 7) (.int .i64 0) 28 2 2)
  generalize bs l = s at *
  go_enter Try.func21, Try.ntmps21
  go_wp2_with fail
  generalize ((((w.alloc (.cells #[.int .i64 64] 3)).alloc (.cells #[.func (.func 22) #[] #[]] 47)).alloc (.cells #[.slice none 0 0] 28)).alloc (.cells #[.int .i64 7] 2)).alloc (.cells #[.int .i64 0] 2) = Wf at *
  have c2 := H5.out.2.1.cell 0 _ rfl
  have c3 := H5.out.2.2.1.cell 0 _ rfl
  have c4 := H5.out.2.2.2.cell 0 _ rfl
  exact bodyPost_ret (v := .tuple #[.slice none 0 0, .int .i64 7, .int .i64 0]) (by simp [results, Try.results21, go_sem, c2, c3, c4]) rfl ⟨_, rfl, OwnI.nil _ _ _ _, H5.out.1⟩
set_option maxHeartbeats 4000000 in
theorem implReadU_walk (l : List UInt8) (w : World) (hl : l.length ≤ 1048576) (X : List Int × Int × Int) (hX : X = rdAll ruP 64 l) :
    Calls Try.prog 11 #[.string (bs l)] w fun e w' => RdPu w X.1 X.2.1 X.2.2 e w' := by
  have C : Hid (Calls Try.prog 21 #[.string (bs l), .int .i64 64, .func (.func 22) #[] #[]] w fun e w' => RdPu w X.1 X.2.1 X.2.2 e w') := hide (by
    unfold rdAll at hX
    by_cases h : 20000 < l.length
    · rw [if_pos h] at hX
      rw [hX]
      exact readLinesU_long l w h hl
    · rw [if_neg h, rdL_N] at hX
      exact readLinesU_walk l w (by omega) X hX)
  clear hX
  go_enter Try.func11, Try.ntmps11
  go_wp2_with fail
  refine C.out.mono ?_
  rintro e w1 ⟨v, rfl, ho, hb⟩
  have HO := hide ho
  have HB := hide hb
  clear ho hb
  go_wp2_with fail
  go_ret3
  exact ⟨_, rfl, HO.out, HB.out⟩
theorem specReadU (l : List UInt8) (w : World) (hl : l.length ≤ 1048576) (X : List Int × Int × Int) (hX : X = rdAll ruP 64 l) :
    Calls Try.prog 10 #[.string (bs l)] w fun e w' => RdPu w X.1 X.2.1 X.2.2 e w' := by
  unfold rdAll at hX
  by_cases h : 20000 < l.length
  · rw [if_pos h] at hX
    rw [hX]
    exact specReadU_long l w h hl
  · rw [if_neg h] at hX
    exact specReadU_walk l w (by omega) X hX
end Go.Proofs.Ytgegnkboibgbgaa
