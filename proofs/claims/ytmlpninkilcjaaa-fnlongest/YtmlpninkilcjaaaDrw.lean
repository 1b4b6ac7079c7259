/-
Contracts of functions of this seat.
-/
import Derived.Test.YtmlpninkilcjaaaRows
import Derived.WalkKit
import Derived.ProofKit
import Derived.OpenShut
import Derived.Test.YtmlpninkilcjaaaSrc
namespace Go.Proofs.Ytmlpninkilcjaaa
open Go.ChangeShapes Go.WideShapes Go.ChangeAt Go.RowKit
set_option linter.unusedVariables false
set_option maxRecDepth 100000
set_option maxHeartbeats 1000000 in
theorem l02Host_walk (g : Nat) (zs : List Int) (w : World) (a : Option Addr) (cap : Nat) (harr : Arr w a zs) (hsrc : SrcA w g 57 zs.length a cap) (hl : zs.length ≤ 2097152) :
    Calls Try.prog 30 #[.pointer (some ⟨g, 0, none⟩)] w fun e w' => ∃ r : Int, e = .returned (.int .i64 r) ∧ 167772161 ≤ r ∧ r ≤ 167772422 ∧ w.grownBy w' (some g) ∧ SrcA w' g 57 zs.length a cap := by
  have HA0 := hide harr
  have HS0 := hide hsrc
  clear harr hsrc
  go_enter Try.func30, Try.ntmps30
  go_wp2_with fail
  refine (l01Next_walk _ _ zs _ a cap HA0.out HS0.out (by omega) (by omega) hl).mono ?_
  rintro e w1 ⟨r, rfl, r0, r1, hn1, hs1⟩
  have HS1 := hide hs1
  have HA1 := hide (HA0.out.srcA HS0.out hn1)
  clear hs1
  go_wp2_with fail
  refine (l01Next_walk _ _ zs _ a cap HA1.out HS1.out (by omega) (by omega) hl).mono ?_
  rintro e w2 ⟨q, rfl, q0, q1, hn2, hs2⟩
  have HS2 := hide hs2
  have HA2 := hide (HA1.out.srcA HS1.out hn2)
  clear hs2
  go_wp2_with fail
  go_ret
  exact ⟨_, rfl, by omega, by omega, grown_trans hn1 hn2, HS2.out⟩

set_option maxHeartbeats 1000000 in
theorem l02Wide_walk (g : Nat) (zs : List Int) (w : World) (a : Option Addr) (cap : Nat) (harr : Arr w a zs) (hsrc : SrcA w g 57 zs.length a cap) (hl : zs.length ≤ 2097152) :
    Calls Try.prog 51 #[.pointer (some ⟨g, 0, none⟩)] w fun e w' => ∃ r : Int, e = .returned (.int .i64 r) ∧ 0 ≤ r ∧ r ≤ 4294967295 ∧ w.grownBy w' (some g) ∧ SrcA w' g 57 zs.length a cap := by
  have HA0 := hide harr
  have HS0 := hide hsrc
  clear harr hsrc
  go_enter Try.func51, Try.ntmps51
  go_wp2_with fail
  refine (l01Next_walk _ _ zs _ a cap HA0.out HS0.out (by omega) (by omega) hl).mono ?_
  rintro e w1 ⟨r, rfl, r0, r1, hn1, hs1⟩
  have HS1 := hide hs1
  have HA1 := hide (HA0.out.srcA HS0.out hn1)
  clear hs1
  go_wp2_with fail
  refine (l01Next_walk _ _ zs _ a cap HA1.out HS1.out (by omega) (by omega) hl).mono ?_
  rintro e w2 ⟨q, rfl, q0, q1, hn2, hs2⟩
  have HS2 := hide hs2
  have HA2 := hide (HA1.out.srcA HS1.out hn2)
  clear hs2
  go_wp2_with fail
  go_ret
  exact ⟨_, rfl, by omega, by omega, grown_trans hn1 hn2, HS2.out⟩
set_option maxHeartbeats 2000000 in
theorem l02Addr_walk (g : Nat) (zs : List Int) (w : World) (a : Option Addr) (cap : Nat) (harr : Arr w a zs) (hsrc : SrcA w g 57 zs.length a cap) (hl : zs.length ≤ 2097152) :
    Calls Try.prog 28 #[.pointer (some ⟨g, 0, none⟩)] w fun e w' => ∃ r : Int, e = .returned (.int .i64 r) ∧ -1 ≤ r ∧ r ≤ 4294967296 ∧ w.grownBy w' (some g) ∧ SrcA w' g 57 zs.length a cap := by
  have HA0 := hide harr
  have HS0 := hide hsrc
  clear harr hsrc
  go_enter Try.func28, Try.ntmps28
  go_wp2_with fail
  refine (l01Next_walk _ _ zs _ a cap HA0.out HS0.out (by omega) (by omega) hl).mono ?_
  rintro e w1 ⟨r, rfl, r0, r1, hn1, hs1⟩
  have HS1 := hide hs1
  have HA1 := hide (HA0.out.srcA HS0.out hn1)
  clear hs1
  by_cases hr : r = 0
  · subst hr
    go_wp2_with fail
    refine (l02Wide_walk _ zs _ a cap HA1.out HS1.out hl).mono ?_
    rintro e w2 ⟨q, rfl, q0, q1, hn2, hs2⟩
    go_wp2_with fail
    go_ret
    exact ⟨_, rfl, by omega, by omega, grown_trans hn1 hn2, hs2⟩
  · by_cases hr1 : r = 1
    · subst hr1
      go_wp2_with fail
      have hblk : (w1.alloc (.cells #[.int .i64 0, .int .i64 4294967295, .int .i64 2130706433, .int .i64 3758096389, .int .i64 4026531840, .int .i64 167772415, .int .i64 (-1), .int .i64 4294967296, .int .i64 3758096384, .int .i64 4026531839] 2)).heap[w1.heap.size]? = some (.cells #[.int .i64 0, .int .i64 4294967295, .int .i64 2130706433, .int .i64 3758096389, .int .i64 4026531840, .int .i64 167772415, .int .i64 (-1), .int .i64 4294967296, .int .i64 3758096384, .int .i64 4026531839] 2) := heap_alloc_new w1 _
      have HSW := hide (HS1.out.alloc (.cells #[.int .i64 0, .int .i64 4294967295, .int .i64 2130706433, .int .i64 3758096389, .int .i64 4026531840, .int .i64 167772415, .int .i64 (-1), .int .i64 4294967296, .int .i64 3758096384, .int .i64 4026531839] 2))
      have HAW := hide (HA1.out.below ((Below.refl w1.heap.size w1).alloc (Nat.le_refl _) (.cells #[.int .i64 0, .int .i64 4294967295, .int .i64 2130706433, .int .i64 3758096389, .int .i64 4026531840, .int .i64 167772415, .int .i64 (-1), .int .i64 4294967296, .int .i64 3758096384, .int .i64 4026531839] 2)) (Nat.le_refl _))
      have hgW := grown_alloc hn1 (.cells #[.int .i64 0, .int .i64 4294967295, .int .i64 2130706433, .int .i64 3758096389, .int .i64 4026531840, .int .i64 167772415, .int .i64 (-1), .int .i64 4294967296, .int .i64 3758096384, .int .i64 4026531839] 2)
      have hszW : w1.heap.size < (w1.alloc (.cells #[.int .i64 0, .int .i64 4294967295, .int .i64 2130706433, .int .i64 3758096389, .int .i64 4026531840, .int .i64 167772415, .int .i64 (-1), .int .i64 4294967296, .int .i64 3758096384, .int .i64 4026531839] 2)).heap.size := by rw [World.size_alloc]; omega
      generalize w1.alloc (.cells #[.int .i64 0, .int .i64 4294967295, .int .i64 2130706433, .int .i64 3758096389, .int .i64 4026531840, .int .i64 167772415, .int .i64 (-1), .int .i64 4294967296, .int .i64 3758096384, .int .i64 4026531839] 2) = W at *
      refine (l01Next_walk _ _ zs _ a cap HAW.out HSW.out (by omega) (by omega) hl).mono ?_
      rintro e w2 ⟨q, rfl, q0, q1, hn2, hs2⟩
      have hglt := HS1.out.lt
      have hblk2 := (hn2.block w1.heap.size hszW (by simp; omega)).trans hblk
      have hc := fun o => cell_of_row w2 w1.heap.size o _ _ _ hblk2
      have HS2 := hide hs2
      clear hblk hblk2 hs2
      obtain ⟨k, rfl⟩ := Int.eq_ofNat_of_zero_le q0
      rcases (show k = 0 ∨ k = 1 ∨ k = 2 ∨ k = 3 ∨ k = 4 ∨ k = 5 ∨ k = 6 ∨ k = 7 ∨ k = 8 ∨ k = 9 by omega) with rfl | rfl | rfl | rfl | rfl | rfl | rfl | rfl | rfl | rfl
      all_goals
        go_wp2_with fail
        go_ret
        exact ⟨_, rfl, by omega, by omega, grown_trans hgW hn2, HS2.out⟩
    · have b1 : (r == 0) = false := by rw [beq_eq_false_iff_ne]; exact hr
      have b2 : (r == 1) = false := by rw [beq_eq_false_iff_ne]; exact hr1
      clear hr hr1
      go_wp2_with fail
      refine (l01Next_walk _ _ zs _ a cap HA1.out HS1.out (by omega) (by omega) hl).mono ?_
      rintro e w2 ⟨q, rfl, q0, q1, hn2, hs2⟩
      have HS2 := hide hs2
      have HA2 := hide (HA1.out.srcA HS1.out hn2)
      clear hs2
      go_wp2_with fail
      go_ret
      exact ⟨_, rfl, by omega, by omega, grown_trans hn1 hn2, HS2.out⟩
end Go.Proofs.Ytmlpninkilcjaaa
