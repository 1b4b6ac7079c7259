/-
Contracts of functions of this seat.
-/
import Derived.Test.YtmlpninkilcjaaaRows
import Derived.WalkKit
import Derived.ProofKit
import Derived.OpenShut
import Derived.Test.YtmlpninkilcjaaaPfx
namespace Go.Proofs.Ytmlpninkilcjaaa
open Go.ChangeShapes Go.WideShapes Go.ChangeAt Go.RowKit
set_option linter.unusedVariables false
set_option maxRecDepth 100000
set_option maxHeartbeats 4000000 in
theorem l02Ill_walk (g : Nat) (zs : List Int) (w : World) (a : Option Addr) (cap : Nat) (harr : Arr w a zs) (hsrc : SrcA w g 57 zs.length a cap) (hl : zs.length ≤ 2097152) :
    Calls Try.prog 50 #[.pointer (some ⟨g, 0, none⟩)] w fun e w' => ∃ x b : Int, e = .returned (.agg #[.int .i64 x, .int .i64 b]) ∧ -1 ≤ x ∧ x ≤ 4294967296 ∧ -1 ≤ b ∧ b ≤ 33 ∧ w.grownBy w' (some g) ∧ SrcA w' g 57 zs.length a cap := by
  have HA0 := hide (harr.below ((Below.refl w.heap.size w).alloc (Nat.le_refl _) (.cells #[.int .i64 0, .int .i64 0] 25)) (Nat.le_refl _))
  have HS0 := hide (hsrc.alloc (.cells #[.int .i64 0, .int .i64 0] 25))
  have hglt := hsrc.lt
  have hr0 := heap_alloc_new w (.cells #[.int .i64 0, .int .i64 0] 25)
  have hg0 := World.grownBy_alloc w (.cells #[.int .i64 0, .int .i64 0] 25) (some g)
  clear harr hsrc
  go_enter Try.func50, Try.ntmps50
  go_wp2_with fail
  generalize w.alloc (.cells #[.int .i64 0, .int .i64 0] 25) = W0 at *
  refine (l02Prefix_walk _ zs _ a cap HA0.out HS0.out hl).mono ?_
  rintro e w2 ⟨x, b, rfl, x0, x1, b0, b1, hn2, hs2⟩
  have HS2 := hide (hs2.alloc (.cells #[.int .i64 x, .int .i64 b] 25))
  have HA2 := hide ((HA0.out.srcA HS0.out hn2).below ((Below.refl w2.heap.size w2).alloc (Nat.le_refl _) (.cells #[.int .i64 x, .int .i64 b] 25)) (Nat.le_refl _))
  have hr2 := keep_block hr0 hn2 (by omega)
  have hp2 := heap_alloc_new w2 (.cells #[.int .i64 x, .int .i64 b] 25)
  have hlt2 : w.heap.size < w2.heap.size := by
    by_cases hlt : w.heap.size < w2.heap.size
    · exact hlt
    · rw [Array.getElem?_eq_none (by omega)] at hr2; cases hr2
  have hr2' := (Below.heap_alloc w2 (.cells #[.int .i64 x, .int .i64 b] 25) w.heap.size hlt2).trans hr2
  have hg2 := grown_alloc (grown_trans hg0 hn2) (.cells #[.int .i64 x, .int .i64 b] 25)
  clear hs2 hr2 hg0 hn2 hr0
  go_wp2_with fail
  generalize w2.alloc (.cells #[.int .i64 x, .int .i64 b] 25) = W2 at *
  refine (l01Next_walk _ _ zs _ a cap HA2.out HS2.out (by omega) (by omega) hl).mono ?_
  rintro e w3 ⟨r, rfl, r0, r1, hn3, hs3⟩
  have HS3 := hide hs3
  have hr3 := keep_block hr2' hn3 (by omega)
  have hp3 := keep_block hp2 hn3 (by omega)
  have HG3 := hide (grown_trans hg2 hn3)
  obtain ⟨c0, c1, cf⟩ := pair_cells hp3
  obtain ⟨d0, d1, df⟩ := pair_cells hr3
  clear hs3 hr2' hp2 hg2 hn3 hp3 hr3
  have hne : w2.heap.size ≠ w.heap.size := by omega
  have hgw : g ≠ w.heap.size := by omega
  have hgp : g ≠ w2.heap.size := by omega
  rcases (show r = 0 ∨ r = 1 ∨ r = 2 ∨ r = 3 ∨ (r ≠ 0 ∧ r ≠ 1 ∧ r ≠ 2 ∧ r ≠ 3) by omega) with rfl | rfl | rfl | rfl | ⟨k0, k1, k2, k3⟩
  · go_wp2_with fail
    exact bodyPost_ret (v := .agg #[.int .i64 x, .int .i64 33]) (by simp [results, Try.results50, go_sem, d0, d1]) rfl ⟨x, 33, rfl, by omega, by omega, by omega, by omega, (grown_set (grown_set (grown_set HG3.out (p := ⟨w2.heap.size, _, none⟩) (by show w.heap.size ≤ w2.heap.size; omega) _) (p := ⟨w.heap.size, _, none⟩) (Nat.le_refl _) _) (p := ⟨w.heap.size, _, none⟩) (Nat.le_refl _) _), (SrcA.set (SrcA.set (SrcA.set HS3.out (p := ⟨w2.heap.size, _, none⟩) hgp _) (p := ⟨w.heap.size, _, none⟩) hgw _) (p := ⟨w.heap.size, _, none⟩) hgw _)⟩
  · go_wp2_with fail
    exact bodyPost_ret (v := .agg #[.int .i64 x, .int .i64 (-1)]) (by simp [results, Try.results50, go_sem, d0, d1]) rfl ⟨x, (-1), rfl, by omega, by omega, by omega, by omega, (grown_set (grown_set (grown_set HG3.out (p := ⟨w2.heap.size, _, none⟩) (by show w.heap.size ≤ w2.heap.size; omega) _) (p := ⟨w.heap.size, _, none⟩) (Nat.le_refl _) _) (p := ⟨w.heap.size, _, none⟩) (Nat.le_refl _) _), (SrcA.set (SrcA.set (SrcA.set HS3.out (p := ⟨w2.heap.size, _, none⟩) hgp _) (p := ⟨w.heap.size, _, none⟩) hgw _) (p := ⟨w.heap.size, _, none⟩) hgw _)⟩
  · go_wp2_with fail
    exact bodyPost_ret (v := .agg #[.int .i64 (x + 1), .int .i64 b]) (by simp [results, Try.results50, go_sem, d0, d1]) rfl ⟨(x + 1), b, rfl, by omega, by omega, by omega, by omega, (grown_set (grown_set (grown_set HG3.out (p := ⟨w2.heap.size, _, none⟩) (by show w.heap.size ≤ w2.heap.size; omega) _) (p := ⟨w.heap.size, _, none⟩) (Nat.le_refl _) _) (p := ⟨w.heap.size, _, none⟩) (Nat.le_refl _) _), (SrcA.set (SrcA.set (SrcA.set HS3.out (p := ⟨w2.heap.size, _, none⟩) hgp _) (p := ⟨w.heap.size, _, none⟩) hgw _) (p := ⟨w.heap.size, _, none⟩) hgw _)⟩
  · go_wp2_with fail
    exact bodyPost_ret (v := .agg #[.int .i64 (-1), .int .i64 b]) (by simp [results, Try.results50, go_sem, d0, d1]) rfl ⟨(-1), b, rfl, by omega, by omega, by omega, by omega, (grown_set (grown_set (grown_set HG3.out (p := ⟨w2.heap.size, _, none⟩) (by show w.heap.size ≤ w2.heap.size; omega) _) (p := ⟨w.heap.size, _, none⟩) (Nat.le_refl _) _) (p := ⟨w.heap.size, _, none⟩) (Nat.le_refl _) _), (SrcA.set (SrcA.set (SrcA.set HS3.out (p := ⟨w2.heap.size, _, none⟩) hgp _) (p := ⟨w.heap.size, _, none⟩) hgw _) (p := ⟨w.heap.size, _, none⟩) hgw _)⟩
  · have e0 : (r == 0) = false := by rw [beq_eq_false_iff_ne]; exact k0
    have e1 : (r == 1) = false := by rw [beq_eq_false_iff_ne]; exact k1
    have e2 : (r == 2) = false := by rw [beq_eq_false_iff_ne]; exact k2
    have e3 : (r == 3) = false := by rw [beq_eq_false_iff_ne]; exact k3
    clear k0 k1 k2 k3
    go_wp2_with fail
    exact bodyPost_ret (v := .agg #[.int .i64 x, .int .i64 b]) (by simp [results, Try.results50, go_sem, d0, d1]) rfl ⟨x, b, rfl, by omega, by omega, by omega, by omega, (grown_set (grown_set HG3.out (p := ⟨w.heap.size, _, none⟩) (Nat.le_refl _) _) (p := ⟨w.heap.size, _, none⟩) (Nat.le_refl _) _), (SrcA.set (SrcA.set HS3.out (p := ⟨w.heap.size, _, none⟩) hgw _) (p := ⟨w.heap.size, _, none⟩) hgw _)⟩
end Go.Proofs.Ytmlpninkilcjaaa
