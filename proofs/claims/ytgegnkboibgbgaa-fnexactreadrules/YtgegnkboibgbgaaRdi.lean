/-
Contracts of functions of this seat.
-/
import Derived.Test.YtgegnkboibgbgaaRows
import Derived.WalkKit
import Derived.ProofKit
import Derived.OpenShut
import Derived.Test.YtgegnkboibgbgaaRdl
import Derived.Test.YtgegnkboibgbgaaRt0
namespace Go.Proofs.Ytgegnkboibgbgaa
open Go.ChangeShapes Go.WideShapes Go.ChangeAt Go.RowKit
set_option linter.unusedVariables false
set_option maxRecDepth 100000
theorem five_allocs (w : World) (o1 o2 : Obj) (x y z : Value) (t1 t2 t3 : Nat) : Below w.heap.size w (((((w.alloc o1).alloc o2).alloc (.cells #[x] t1)).alloc (.cells #[y] t2)).alloc (.cells #[z] t3)) ∧ HoldV (((((w.alloc o1).alloc o2).alloc (.cells #[x] t1)).alloc (.cells #[y] t2)).alloc (.cells #[z] t3)) (w.heap.size + 1 + 1) #[x] t1 ∧ HoldV (((((w.alloc o1).alloc o2).alloc (.cells #[x] t1)).alloc (.cells #[y] t2)).alloc (.cells #[z] t3)) (w.heap.size + 1 + 1 + 1) #[y] t2 ∧ HoldV (((((w.alloc o1).alloc o2).alloc (.cells #[x] t1)).alloc (.cells #[y] t2)).alloc (.cells #[z] t3)) (w.heap.size + 1 + 1 + 1 + 1) #[z] t3 := by
  obtain ⟨w2, hw2⟩ : ∃ w2, (w.alloc o1).alloc o2 = w2 := ⟨_, rfl⟩
  have s2 : w2.heap.size = w.heap.size + 1 + 1 := by rw [← hw2, World.size_alloc, World.size_alloc]
  have b2 : Below w.heap.size w w2 := by rw [← hw2]; exact ((Below.refl _ _).alloc (Nat.le_refl _) _).alloc (by rw [World.size_alloc]; omega) _
  rw [hw2]
  obtain ⟨h1, h2, h3⟩ := three_holds w2 #[x] #[y] #[z] t1 t2 t3
  rw [s2] at h1 h2 h3
  exact ⟨b2.trans ((three_alloc w2 _ _ _).mono b2.size), h1, h2, h3⟩
set_option maxHeartbeats 4000000 in
theorem readLinesR_long (l : List UInt8) (w : World) (hl : 20000 < l.length) (hl2 : l.length ≤ 1048576) :
    Calls Try.prog 17 #[.string (bs l), .int .i64 64, .func (.func 18) #[] #[]] w fun e w' => RdP w [] 7 0 e w' := by
  have hsz := bs_size l
  have h1 : (20000 : Int) < ((bs l).size : Int) := by omega
  have H5 := hide (five_allocs w (.cells #[.int .i64 64] 3) (.cells #[.func (.func 18) #[] #[]] 41) (.slice none 0 0) (.int .i64 7) (.int .i64 0) 22 2 2)
  generalize bs l = s at *
  go_enter Try.func17, Try.ntmps17
  go_wp2_with fail
  generalize ((((w.alloc (.cells #[.int .i64 64] 3)).alloc (.cells #[.func (.func 18) #[] #[]] 41)).alloc (.cells #[.slice none 0 0] 22)).alloc (.cells #[.int .i64 7] 2)).alloc (.cells #[.int .i64 0] 2) = Wf at *
  have c2 := H5.out.2.1.cell 0 _ rfl
  have c3 := H5.out.2.2.1.cell 0 _ rfl
  have c4 := H5.out.2.2.2.cell 0 _ rfl
  exact bodyPost_ret (v := .tuple #[.slice none 0 0, .int .i64 7, .int .i64 0]) (by simp [results, Try.results17, go_sem, c2, c3, c4]) rfl ⟨_, rfl, OwnI.nil _ _ _ _, H5.out.1⟩
set_option maxHeartbeats 4000000 in
theorem implReadR_walk (l : List UInt8) (w : World) (hl : l.length ≤ 1048576) (X : List Int × Int × Int) (hX : X = rdAll rtP 64 l) :
    Calls Try.prog 6 #[.string (bs l)] w fun e w' => RdP w X.1 X.2.1 X.2.2 e w' := by
  have C : Hid (Calls Try.prog 17 #[.string (bs l), .int .i64 64, .func (.func 18) #[] #[]] w fun e w' => RdP w X.1 X.2.1 X.2.2 e w') := hide (by
    unfold rdAll at hX
    by_cases h : 20000 < l.length
    · rw [if_pos h] at hX
      rw [hX]
      exact readLinesR_long l w h hl
    · rw [if_neg h, rdL_N] at hX
      exact readLinesR_walk l w (by omega) X hX)
  clear hX
  go_enter Try.func6, Try.ntmps6
  go_wp2_with fail
  refine C.out.mono ?_
  rintro e w1 ⟨v, rfl, ho, hb⟩
  have HO := hide ho
  have HB := hide hb
  clear ho hb
  go_wp2_with fail
  go_ret3
  exact ⟨_, rfl, HO.out, HB.out⟩
theorem specReadR (l : List UInt8) (w : World) (hl : l.length ≤ 1048576) (X : List Int × Int × Int) (hX : X = rdAll rtP 64 l) :
    Calls Try.prog 5 #[.string (bs l)] w fun e w' => RdP w X.1 X.2.1 X.2.2 e w' := by
  unfold rdAll at hX
  by_cases h : 20000 < l.length
  · rw [if_pos h] at hX
    rw [hX]
    exact specReadR_long l w h hl
  · rw [if_neg h] at hX
    exact specReadR_walk l w (by omega) X hX
end Go.Proofs.Ytgegnkboibgbgaa
