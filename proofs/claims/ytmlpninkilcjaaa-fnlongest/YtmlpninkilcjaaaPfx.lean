/-
Contracts of functions of this seat.
-/
import Derived.Test.YtmlpninkilcjaaaRows
import Derived.WalkKit
import Derived.ProofKit
import Derived.OpenShut
import Derived.Test.YtmlpninkilcjaaaDrw
import Derived.Deep.RegionWith
import Derived.BigCall
namespace Go.Proofs.Ytmlpninkilcjaaa
open Go.ChangeShapes Go.WideShapes Go.ChangeAt Go.RowKit
set_option linter.unusedVariables false
set_option maxRecDepth 100000
theorem pair_cells {w : World} {g t : Nat} {x y : Value} (h : w.heap[g]? = some (.cells #[x, y] t)) : w.cell? ⟨g, 0, none⟩ = some x ∧ w.cell? ⟨g, 1, none⟩ = some y ∧ ∀ o, w.frozen? ⟨g, o, none⟩ = false :=
  ⟨cell_of_row w g 0 _ _ _ h, cell_of_row w g 1 _ _ _ h, fun o => frozen_of_row w g o _ _ h⟩

/-- A block of its own keeps its cells where only the source's block may change. -/
theorem keep_block {w w' : World} {g p : Nat} {o : Obj} (h : w.heap[p]? = some o) (hg : w.grownBy w' (some g)) (hne : p ≠ g) : w'.heap[p]? = some o := by
  have hlt : p < w.heap.size := by
    by_cases hlt : p < w.heap.size
    · exact hlt
    · rw [Array.getElem?_eq_none (by omega)] at h; cases h
  rw [hg.block p hlt (by simp; exact hne)]; exact h
theorem heap_new' (w : World) (o o2 : Obj) : ((w.alloc o).alloc o2).heap[w.heap.size]? = some o := by
  rw [Below.heap_alloc (w.alloc o) o2 w.heap.size (by rw [World.size_alloc]; omega)]; exact heap_alloc_new w o
set_option maxHeartbeats 4000000 in
theorem l02Prefix_walk (g : Nat) (zs : List Int) (w : World) (a : Option Addr) (cap : Nat) (harr : Arr w a zs) (hsrc : SrcA w g 57 zs.length a cap) (hl : zs.length ≤ 2097152) :
    Calls Try.prog 69 #[.pointer (some ⟨g, 0, none⟩)] w fun e w' => ∃ x b : Int, e = .returned (.agg #[.int .i64 x, .int .i64 b]) ∧ 0 ≤ x ∧ x ≤ 4294967295 ∧ 0 ≤ b ∧ b ≤ 32 ∧ w.grownBy w' (some g) ∧ SrcA w' g 57 zs.length a cap := by
  have HA0 := hide (harr.below ((Below.refl w.heap.size w).alloc (Nat.le_refl _) (.cells #[.int .i64 0, .int .i64 0] 25)) (Nat.le_refl _))
  have HS0 := hide (hsrc.alloc (.cells #[.int .i64 0, .int .i64 0] 25))
  have hglt := hsrc.lt
  have hr0 := heap_alloc_new w (.cells #[.int .i64 0, .int .i64 0] 25)
  have hg0 := World.grownBy_alloc w (.cells #[.int .i64 0, .int .i64 0] 25) (some g)
  clear harr hsrc
  go_enter Try.func69, Try.ntmps69
  go_wp2_with fail
  generalize w.alloc (.cells #[.int .i64 0, .int .i64 0] 25) = W0 at *
  refine (l02Host_walk _ zs _ a cap HA0.out HS0.out hl).mono ?_
  rintro e w1 ⟨x, rfl, x0, x1, hn1, hs1⟩
  have HS1 := hide hs1
  have HA1 := hide (HA0.out.srcA HS0.out hn1)
  have hr1 := keep_block hr0 hn1 (by omega)
  clear hs1 hr0
  go_wp2_with fail
  refine (l01Next_walk _ _ zs _ a cap HA1.out HS1.out (by omega) (by omega) hl).mono ?_
  rintro e w2 ⟨b, rfl, b0, b1, hn2, hs2⟩
  have HS2 := hide (hs2.alloc (.cells #[.int .i64 x, .int .i64 b] 25))
  have HA2 := hide ((HA1.out.srcA HS1.out hn2).below ((Below.refl w2.heap.size w2).alloc (Nat.le_refl _) (.cells #[.int .i64 x, .int .i64 b] 25)) (Nat.le_refl _))
  have hr2 := keep_block hr1 hn2 (by omega)
  have hp2 := heap_alloc_new w2 (.cells #[.int .i64 x, .int .i64 b] 25)
  have hr2' := (Below.heap_alloc w2 (.cells #[.int .i64 x, .int .i64 b] 25) w.heap.size (by
    by_cases hlt : w.heap.size < w2.heap.size
    · exact hlt
    · rw [Array.getElem?_eq_none (by omega)] at hr2; cases hr2)).trans hr2
  have hg2 := grown_alloc (grown_trans (grown_trans hg0 hn1) hn2) (.cells #[.int .i64 x, .int .i64 b] 25)
  have hlt2 : w.heap.size < w2.heap.size := by
    by_cases hlt : w.heap.size < w2.heap.size
    · exact hlt
    · rw [Array.getElem?_eq_none (by omega)] at hr2; cases hr2
  have hgw : g ≠ w.heap.size := by omega
  have hgp : g ≠ w2.heap.size := by omega
  have hgn : g < w2.heap.size := by omega
  clear hs2 hr1 hr2 hg0 hn1 hn2
  go_wp2_with fail
  generalize w2.alloc (.cells #[.int .i64 x, .int .i64 b] 25) = W2 at *
  refine (l01Next_walk _ _ zs _ a cap HA2.out HS2.out (by omega) (by omega) hl).mono ?_
  rintro e w3 ⟨r3, rfl, r30, r31, hn3, hs3⟩
  have HS3 := hide hs3
  have HA3 := hide (HA2.out.srcA HS2.out hn3)
  have hr3 := keep_block hr2' hn3 (by omega)
  have hp3 := keep_block hp2 hn3 (by omega)
  have hg3 := grown_trans hg2 hn3
  clear hs3 hr2' hp2 hg2 hn3
  by_cases h3 : r3 = 0
  · subst h3
    go_wp2_with fail
    refine (l01Next_walk _ _ zs _ a cap HA3.out HS3.out (by omega) (by omega) hl).mono ?_
    rintro e w4 ⟨r4, rfl, r40, r41, hn4, hs4⟩
    have hr4 := keep_block hr3 hn4 (by omega)
    have hp4 := keep_block hp3 hn4 (by omega)
    have hp5 : (w4.setCell ⟨w2.heap.size, 1, none⟩ (.int .i64 (22 + r4))).heap[w2.heap.size]? = some (.cells #[.int .i64 x, .int .i64 (22 + r4)] 25) := heap_setCell_same w4 w2.heap.size 1 _ _ _ hp4
    have HR := hide ((heap_setCell_other w4 ⟨w2.heap.size, 1, none⟩ w.heap.size (.int .i64 (22 + r4)) (by show w.heap.size ≠ w2.heap.size; omega)).trans hr4)
    have HP := hide hp5
    have HG := hide (grown_set (grown_trans hg3 hn4) (p := ⟨w2.heap.size, 1, none⟩) (by show w.heap.size ≤ w2.heap.size; omega) (.int .i64 (22 + r4)))
    have HS := hide (SrcA.set hs4 (p := ⟨w2.heap.size, 1, none⟩) hgp (.int .i64 (22 + r4)))
    obtain ⟨c0, c1, cf⟩ := pair_cells hp4
    clear hr3 hp3 hr4 hp4 hp5 hg3 hn4 hs4
    go_wp2_with fail
    clear c0 c1 cf
    generalize w4.setCell ⟨w2.heap.size, 1, none⟩ (.int .i64 (22 + r4)) = W4 at *
    obtain ⟨bb, hbb, HBB⟩ : ∃ bb : Int, (0 ≤ bb ∧ bb ≤ 32) ∧ Hid (bb = 22 + r4) := ⟨22 + r4, by omega, rfl⟩
    rw [← HBB.out] at HP
    rw [← HBB.out]
    have hsz := sz_pos bb
    have hne : sz bb ≠ 0 := by omega
    have hle : x / sz bb * sz bb ≤ x := Int.ediv_mul_le x (by omega)
    have hge : 0 ≤ x / sz bb * sz bb := Int.mul_nonneg (Int.ediv_nonneg (by omega) (by omega)) (by omega)
    have e1 : IntKind.i64.wrap (x.tdiv (sz bb)) = x / sz bb := wrap_div (by omega) (by omega) hsz
    have e2 : IntKind.i64.wrap (x / sz bb * sz bb) = x / sz bb * sz bb := wrap_i64' _ hge (by omega)
    obtain ⟨c0, c1, cf⟩ := pair_cells HP.out
    obtain ⟨d0, d1, df⟩ := pair_cells HR.out
    go_region_with (first | (go_at_call 36; refine (size_walk bb (by omega) (by omega) _).mono ?_; rintro e w' ⟨rfl, rfl⟩))
    all_goals
      go_wp2_with fail
      refine bodyPost_ret (v := .agg #[.int .i64 (x / sz bb * sz bb), .int .i64 bb]) (by simp [results, Try.results69, go_sem, d0, d1]) rfl ⟨x / sz bb * sz bb, bb, rfl, by omega, by omega, by omega, by omega, ?_, ?_⟩
      · repeat (first | exact HG.out | refine grown_drew ?_ | refine grown_set ?_ (p := ⟨w2.heap.size, _, none⟩) (by show w.heap.size ≤ w2.heap.size; omega) _ | refine grown_set ?_ (p := ⟨w.heap.size, _, none⟩) (Nat.le_refl _) _)
      · refine SrcA.same HS.out ?_
        repeat (first | rfl | (rw [show ∀ (u : World) (j : Nat), u.drew.heap[j]? = u.heap[j]? from fun _ _ => rfl]) | (rw [heap_setCell_other _ ⟨w.heap.size, _, none⟩ g _ hgw]) | (rw [heap_setCell_other _ ⟨w2.heap.size, _, none⟩ g _ hgp]))
  · have h3' : (r3 == 0) = false := by rw [beq_eq_false_iff_ne]; exact h3
    clear h3
    have HP := hide hp3
    have HR := hide hr3
    have HG := hide hg3
    have HS := HS3
    clear hp3 hr3 hg3
    go_wp2_with fail
    have hsz := sz_pos b
    have hne : sz b ≠ 0 := by omega
    have hle : x / sz b * sz b ≤ x := Int.ediv_mul_le x (by omega)
    have hge : 0 ≤ x / sz b * sz b := Int.mul_nonneg (Int.ediv_nonneg (by omega) (by omega)) (by omega)
    have e1 : IntKind.i64.wrap (x.tdiv (sz b)) = x / sz b := wrap_div (by omega) (by omega) hsz
    have e2 : IntKind.i64.wrap (x / sz b * sz b) = x / sz b * sz b := wrap_i64' _ hge (by omega)
    obtain ⟨c0, c1, cf⟩ := pair_cells HP.out
    obtain ⟨d0, d1, df⟩ := pair_cells HR.out
    go_region_with (first | (go_at_call 36; refine (size_walk b (by omega) (by omega) _).mono ?_; rintro e w' ⟨rfl, rfl⟩))
    all_goals
      go_wp2_with fail
      refine bodyPost_ret (v := .agg #[.int .i64 (x / sz b * sz b), .int .i64 b]) (by simp [results, Try.results69, go_sem, d0, d1]) rfl ⟨x / sz b * sz b, b, rfl, by omega, by omega, by omega, by omega, ?_, ?_⟩
      · repeat (first | exact HG.out | refine grown_drew ?_ | refine grown_set ?_ (p := ⟨w2.heap.size, _, none⟩) (by show w.heap.size ≤ w2.heap.size; omega) _ | refine grown_set ?_ (p := ⟨w.heap.size, _, none⟩) (Nat.le_refl _) _)
      · refine SrcA.same HS.out ?_
        repeat (first | rfl | (rw [show ∀ (u : World) (j : Nat), u.drew.heap[j]? = u.heap[j]? from fun _ _ => rfl]) | (rw [heap_setCell_other _ ⟨w.heap.size, _, none⟩ g _ hgw]) | (rw [heap_setCell_other _ ⟨w2.heap.size, _, none⟩ g _ hgp]))
end Go.Proofs.Ytmlpninkilcjaaa
